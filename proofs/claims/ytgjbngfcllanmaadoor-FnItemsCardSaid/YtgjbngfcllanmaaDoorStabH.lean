/- The library's stable sort: the merge of two parts, in their midst. -/
import Derived.Test.YtgjbngfcllanmaaDoorStabE
import Derived.Deep.Cut
import Derived.Deep.DeepCutAuto
namespace Go.Proofs.YtgjbngfcllanmaaDoor
open Go.RowKit

set_option maxHeartbeats 6400000 in
set_option maxRecDepth 100000 in
theorem mergeMid_any (g n cap base f a m b D : Nat) (cf : It → It → Int) (lt : It → It → Bool) (eg : ∀ args w, (callFunc f args).run Tryd.prog w = .ok (.enter f args) w) (hc : CmpI f cf) (hlt : ∀ x y, lt x y = decide (cf x y < 0)) (hs : Strict lt)
    (IH : ∀ (a m b : Nat) (P X Y S : List It) (w : World), RowI g n cap base (P ++ X ++ Y ++ S) w → a = P.length → m = P.length + X.length → b = P.length + X.length + Y.length → 0 < X.length → 0 < Y.length → X.length + Y.length < D → Sorted lt X → Sorted lt Y →
      Calls Tryd.prog 70 #[.slice (some ⟨g, 0, none⟩) n cap, .int .i64 a, .int .i64 m, .int .i64 b, .func (.func f) #[] #[]] w fun e w' =>
        e = .returned (.tuple #[]) ∧ RowI g n cap base (P ++ sortB lt (X ++ Y) ++ S) w' ∧ Below base w w')
    (P X Y S : List It) (w : World) (h : RowI g n cap base (P ++ X ++ Y ++ S) w) (hn : n ≤ 1099511627776) (ha : a = P.length) (hm : m = P.length + X.length) (hb : b = P.length + X.length + Y.length) (hX2 : 1 < X.length) (hY2 : 1 < Y.length) (hD : X.length + Y.length = D) (hX : Sorted lt X) (hY : Sorted lt Y)
    (Q0 : Ending → World → Prop) (hQ : ∀ w', RowI g n cap base (P ++ sortB lt (X ++ Y) ++ S) w' → Below base w w' → Q0 (.returned (.tuple #[])) w') :
    Calls Tryd.prog 70 #[.slice (some ⟨g, 0, none⟩) n cap, .int .i64 a, .int .i64 m, .int .i64 b, .func (.func f) #[] #[]] w Q0 := by
  have H := Lib.hid h
  have hl : b ≤ n := by have := h.2; simp at this; omega
  have G := Lib.hid h.lt
  have ham : a < m := by omega
  have hmb : m < b := by omega
  replace hQ := Lib.hid hQ
  replace hc := Lib.hid hc
  replace hlt := Lib.hid hlt
  replace hX := Lib.hid hX
  replace hY := Lib.hid hY
  replace IH := Lib.hid IH
  obtain ⟨k0, hk0⟩ : ∃ k, k = X.length := ⟨_, rfl⟩
  obtain ⟨k1, hk1⟩ : ∃ k, k = Y.length := ⟨_, rfl⟩
  obtain ⟨md, hmd⟩ : ∃ k, k = (a + b) / 2 := ⟨_, rfl⟩
  obtain ⟨nn, hnn⟩ : ∃ k, k = md + m := ⟨_, rfl⟩
  obtain ⟨pp, hpp⟩ : ∃ k, k = nn - 1 := ⟨_, rfl⟩
  have e1 : IntKind.i64.wrap ((m : Int) - (a : Int)) = (k0 : Int) := by rw [IntKind.wrap_i64]; omega
  have e2 : ((k0 : Int) == 1) = false := by rw [beq_eq_false_iff_ne]; omega
  have e3 : IntKind.i64.wrap ((b : Int) - (m : Int)) = (k1 : Int) := by rw [IntKind.wrap_i64]; omega
  have e4 : ((k1 : Int) == 1) = false := by rw [beq_eq_false_iff_ne]; omega
  have e5 : ((a : Int) + (b : Int)) / 2 = (md : Int) := by omega
  have e6 : IntKind.i64.wrap ((md : Int) + (m : Int)) = (nn : Int) := by rw [IntKind.wrap_i64]; omega
  have e7 : IntKind.i64.wrap ((nn : Int) - 1) = (pp : Int) := by rw [IntKind.wrap_i64]; omega
  have HA := Lib.hid (And.intro ha (And.intro hm (And.intro hb (And.intro hX2 (And.intro hY2 (And.intro hmd (And.intro hnn (And.intro hpp hD))))))))
  clear h ha hm hb hX2 hY2 hk0 hk1 hmd hnn hpp hD
  go_enter Tryd.func70, Tryd.ntmps70
  go_upto_if 140 with (fail)
  go_cut [20, 21] (fun v20 v21 wx => ∃ st0 r0 : Nat, v20 = .int .i64 st0 ∧ v21 = .int .i64 r0 ∧ Hid ((st0 = a ∧ r0 = m ∧ m ≤ md) ∨ (st0 = nn - b ∧ r0 = md ∧ md < m)) ∧ w = wx)
  case first => as_aux_lemma =>
    by_cases hmm : md < m
    · have hz : (md : Int) < (m : Int) := by omega
      have e8 : IntKind.i64.wrap ((nn : Int) - (b : Int)) = ((nn - b : Nat) : Int) := by have := HA.out; rw [IntKind.wrap_i64]; omega
      go_wp2
      go_meet
      exact ⟨nn - b, md, rfl, rfl, .inr ⟨rfl, rfl, hmm⟩, rfl⟩
    · have hz : ¬ (md : Int) < (m : Int) := by omega
      go_wp2
      go_meet
      exact ⟨a, m, rfl, rfl, .inl ⟨rfl, rfl, by omega⟩, rfl⟩
  case rest =>
    obtain ⟨st0, r0, rfl, rfl, HC, rfl⟩ := hcut
    have HF : Hid (a ≤ st0 ∧ st0 ≤ r0 ∧ r0 ≤ m ∧ r0 ≤ md ∧ nn - st0 ≤ b ∧ m ≤ nn - r0) := by show _ ∧ _; have := HA.out; have := HC.out; omega
    go_wp2_with fail
    go_loopw [20, 21] (fun vi vj wr => ∃ i j : Nat, vi = .int .i64 i ∧ vj = .int .i64 j ∧ st0 ≤ i ∧ i ≤ j ∧ j ≤ r0 ∧ Hid (i = st0 ∨ lt (Y.getD (pp - (i - 1) - m) zeroIt) (X.getD (i - 1 - a) zeroIt) = false) ∧ Hid (j = r0 ∨ lt (Y.getD (pp - j - m) zeroIt) (X.getD (j - a) zeroIt) = true) ∧ RowI g n cap base (P ++ X ++ Y ++ S) wr ∧ Below base w wr) (fun vi vj _ => (intOf vj).toNat - (intOf vi).toNat)
    case atStart => exact ⟨st0, r0, rfl, rfl, Nat.le_refl _, HF.out.2.1, Nat.le_refl _, .inl rfl, .inl rfl, H.out, Below.refl _ _⟩
    case round =>
      obtain ⟨i, j, rfl, rfl, hi0, hij, hj0, hS, hU, hr, hB⟩ := hrel
      have R := Lib.hid hr
      have BB := Lib.hid hB
      clear hr hB
      by_cases hlt2 : i < j
      · as_aux_lemma =>
        have z0 : (i : Int) < (j : Int) := by omega
        obtain ⟨c, hcc⟩ : ∃ c, c = (i + j) / 2 := ⟨_, rfl⟩
        have hci : i ≤ c ∧ c < j := by omega
        have eh : ((i : Int) + (j : Int)) / 2 = (c : Int) := by omega
        obtain ⟨q, hq⟩ : ∃ q, q = pp - c := ⟨_, rfl⟩
        obtain ⟨x, hx⟩ : ∃ x, X.getD (c - a) zeroIt = x := ⟨_, rfl⟩
        obtain ⟨y, hy⟩ : ∃ y, Y.getD (pp - c - m) zeroIt = y := ⟨_, rfl⟩
        have hA2 := HA.out
        have hF2 := HF.out
        have eq : IntKind.i64.wrap ((pp : Int) - (c : Int)) = (q : Int) := by rw [IntKind.wrap_i64]; omega
        obtain ⟨c0, c1, c2, c3, c4⟩ := R.out.get (i := q) (x := y) (by omega) (by rw [← hy]; exact getD_thd P X Y S q (pp - c - m) (by omega) (by omega))
        obtain ⟨d0, d1, d2, d3, d4⟩ := R.out.get (i := c) (x := x) (by omega) (by rw [← hx, List.append_assoc (P ++ X)]; exact getD_snd P X (Y ++ S) c (c - a) (by omega) (by omega))
        have zqn : (q : Int) < (n : Int) := by omega
        have zcn : (c : Int) < (n : Int) := by omega
        have C := Lib.hid (fun W => hc.out y x W)
        have HP := Lib.hid (And.intro hci hcc)
        have q0 := cellq c0
        have q1 := cellq c1
        have q2 := cellq c2
        have q3 := cellq c3
        have q4 := cellq c4
        have r0' := cellq d0
        have r1' := cellq d1
        have r2' := cellq d2
        have r3' := cellq d3
        have r4' := cellq d4
        replace hx := Lib.hid hx
        replace hy := Lib.hid hy
        clear hci hcc hq hA2 hF2 c0 c1 c2 c3 c4 d0 d1 d2 d3 d4
        by_cases hv : cf y x < 0
        · have hl2 := Lib.hid (show lt (Y.getD (pp - c - m) zeroIt) (X.getD (c - a) zeroIt) = true by rw [hx.out, hy.out, hlt.out, decide_eq_true hv])
          go_wp2_with fail
          refine wp_region_quiet_below (by kernel_rfl) (by kernel_rfl) ?_
          repeat (go_big_quiet_step (first | (go_at_fn f; with_reducible exact callr (C.out _))))
          refine wpQuiet_nil (quiet_end fun W hW => ?_)
          clear q0 q1 q2 q3 q4 r0' r1' r2' r3' r4'
          go_wp2
          go_roundw
          case rel => exact ⟨i, c, rfl, by go_num, by omega, by have := HP.out; omega, by have := HP.out; omega, hS, .inr hl2.out, R.out.below hW, BB.out.trans (hW.mono (by have := R.out.lt; have := G.out; omega))⟩
          case measure => have := HP.out; simp [intOf]; omega
        · have hl2 := Lib.hid (show lt (Y.getD (pp - c - m) zeroIt) (X.getD (c - a) zeroIt) = false by rw [hx.out, hy.out, hlt.out, decide_eq_false hv])
          have hvb : (!decide (cf y x < 0)) = true := by rw [decide_eq_false hv]; rfl
          go_wp2_with fail
          refine wp_region_quiet_below (by kernel_rfl) (by kernel_rfl) ?_
          repeat (go_big_quiet_step (first | (go_at_fn f; with_reducible exact callr (C.out _))))
          refine wpQuiet_nil (quiet_end fun W hW => ?_)
          clear q0 q1 q2 q3 q4 r0' r1' r2' r3' r4'
          go_wp2
          go_roundw
          case rel =>
            refine ⟨c + 1, j, by go_num, rfl, by have := HP.out; omega, by have := HP.out; omega, hj0, .inr ?_, hU, R.out.below hW, BB.out.trans (hW.mono (by have := R.out.lt; have := G.out; omega))⟩
            rw [Nat.add_sub_cancel]
            exact hl2.out
          case measure => have := HP.out; simp [intOf]; omega
      · obtain rfl : i = j := by omega
        obtain ⟨s, hs1⟩ : ∃ s, s = i - a := ⟨_, rfl⟩
        obtain ⟨t, ht1⟩ : ∃ t, t = nn - i - m := ⟨_, rfl⟩
        obtain ⟨en, hen⟩ : ∃ en, en = nn - i := ⟨_, rfl⟩
        have hA2 := HA.out
        have hF2 := HF.out
        have hC2 := HC.out
        have e8 : IntKind.i64.wrap ((nn : Int) - (i : Int)) = (en : Int) := by rw [IntKind.wrap_i64]; omega
        have hsl : s ≤ X.length := by omega
        have htl : t ≤ Y.length := by omega
        have E := Lib.hid (mid_cut hs X Y s t hX.out hY.out hsl htl (fun h1 h2 => by
            rcases hU.out with h | h
            · omega
            · rwa [show pp - i - m = t - 1 by omega, ← hs1] at h) (fun h1 h2 => by
            rcases hS.out with h | h
            · omega
            · rwa [show pp - (i - 1) - m = t by omega, show i - 1 - a = s - 1 by omega] at h))
        have hT : a + s = i ∧ i ≤ m ∧ m + t = en ∧ en ≤ b ∧ md = i + t ∧ i ≤ md ∧ md ≤ en := by omega
        obtain ⟨ha, hm, hb, hX2, hY2, -, -, -, hD⟩ := hA2
        have HE := Lib.hid (And.intro ha (And.intro hm (And.intro hb (And.intro hX2 (And.intro hY2 (And.intro hD (And.intro hT (And.intro hsl htl))))))))
        have X1s := Lib.hid (show Sorted lt (X.take s) from hX.out.sublist (List.take_sublist s X))
        have X2s := Lib.hid (show Sorted lt (X.drop s) from hX.out.sublist (List.drop_sublist s X))
        have Y1s := Lib.hid (show Sorted lt (Y.take t) from hY.out.sublist (List.take_sublist t Y))
        have Y2s := Lib.hid (show Sorted lt (Y.drop t) from hY.out.sublist (List.drop_sublist t Y))
        have R1 : Hid (RowI g n cap base (P ++ X.take s ++ X.drop s ++ Y.take t ++ Y.drop t ++ S) wr) := by
          show RowI _ _ _ _ _ _
          have := R.out
          rw [← List.take_append_drop s X, ← List.take_append_drop t Y] at this
          simpa using this
        have hx1 : (X.take s).length = s := by rw [List.length_take]; omega
        have hx2 : (X.drop s).length = X.length - s := List.length_drop
        have hy1 : (Y.take t).length = t := by rw [List.length_take]; omega
        have hy2 : (Y.drop t).length = Y.length - t := List.length_drop
        clear hs1 ht1 hen hF2 hC2 hsl htl hS hU ha hm hb hX2 hY2 hD hT HA HF HC R hi0 hij hj0 hlt2
        generalize X.take s = X1 at *
        generalize X.drop s = X2 at *
        generalize Y.take t = Y1 at *
        generalize Y.drop t = Y2 at *
        have HL := Lib.hid (And.intro hx1 (And.intro hx2 (And.intro hy1 hy2)))
        clear hx1 hx2 hy1 hy2
        -- rotated where both inner parts hold something
        go_upto_region 39 with (fail)
        go_cut [24, 185] (fun v24 v wx => v24 = .int .i64 en ∧ ∃ z : Bool, v = .bool z ∧ Hid (z = decide (i < m ∧ m < en)) ∧ wr = wx)
        case first => as_aux_lemma =>
          rcases (by omega : ¬ i < m ∨ (i < m ∧ ¬ m < en) ∨ (i < m ∧ m < en)) with h1 | ⟨h1, h2⟩ | ⟨h1, h2⟩
          · have hz : ¬ (i : Int) < (m : Int) := by omega
            have hd := Lib.hid (decide_eq_false (fun h : i < m ∧ m < en => h1 h.1))
            go_wp2
            go_meet
            exact ⟨rfl, false, rfl, hd.out.symm, rfl⟩
          · have hz : (i : Int) < (m : Int) := by omega
            have hz2 : ¬ (m : Int) < (en : Int) := by omega
            have hd := Lib.hid (decide_eq_false (fun h : i < m ∧ m < en => h2 h.2))
            go_wp2
            go_meet
            exact ⟨rfl, false, rfl, hd.out.symm, rfl⟩
          · have hz : (i : Int) < (m : Int) := by omega
            have hz2 : (m : Int) < (en : Int) := by omega
            have hd := Lib.hid (decide_eq_true (And.intro h1 h2))
            go_wp2
            go_meet
            exact ⟨rfl, true, rfl, hd.out.symm, rfl⟩
        obtain ⟨rfl, z, rfl, hz, rfl⟩ := hcut
        go_upto_if 185 with (fail)
        go_cut [] (fun wx => Hid (RowI g n cap base (P ++ X1 ++ Y1 ++ X2 ++ Y2 ++ S) wx) ∧ Hid (Below base w wx))
        case first => as_aux_lemma =>
          cases z with
          | true => as_aux_lemma =>
            have hz2 := of_decide_eq_true hz.out.symm
            have C := Lib.hid (rotate_any g n cap base f i m en (P ++ X1) X2 Y1 (Y2 ++ S) wr (by have := R1.out; simpa using this) hn (by have := HE.out; have := HL.out; simp; omega) (by have := HE.out; have := HL.out; simp; omega) (by have := HE.out; have := HL.out; simp; omega) (by have := HE.out; have := HL.out; omega) (by have := HE.out; have := HL.out; omega))
            go_wp2_with fail
            refine C.out.mono ?_
            rintro e w1 ⟨rfl, hr1, hb1⟩
            go_wp2
            go_meet
            exact ⟨by show RowI _ _ _ _ _ _; simpa using hr1, BB.out.trans hb1⟩
          | false => as_aux_lemma =>
            have hz2 := of_decide_eq_false hz.out.symm
            have hz3 : Hid (X2 = [] ∨ Y1 = []) := by
              show _ ∨ _
              have := HE.out; have := HL.out
              rcases (by omega : X2.length = 0 ∨ Y1.length = 0) with h | h
              · exact .inl (List.length_eq_zero_iff.1 h)
              · exact .inr (List.length_eq_zero_iff.1 h)
            go_wp2
            go_meet
            refine ⟨?_, BB⟩
            have := R1.out
            show RowI _ _ _ _ _ _
            rcases hz3.out with h | h
            · rw [h] at this ⊢; simpa using this
            · rw [h] at this ⊢; simpa using this
        case rest =>
        clear hz BB R1
        obtain ⟨R2, BB⟩ := hcut
        generalize hwq : wc = wr at *
        clear hwq
        go_upto_region 41 with (fail)
        go_cut [199] (fun v wx => ∃ z : Bool, v = .bool z ∧ Hid (z = decide (a < i ∧ i < md)) ∧ wr = wx)
        case first => as_aux_lemma =>
          rcases (by omega : ¬ a < i ∨ (a < i ∧ ¬ i < md) ∨ (a < i ∧ i < md)) with h1 | ⟨h1, h2⟩ | ⟨h1, h2⟩
          · have hz : ¬ (a : Int) < (i : Int) := by omega
            have hd := Lib.hid (decide_eq_false (fun h : a < i ∧ i < md => h1 h.1))
            go_wp2
            go_meet
            exact ⟨false, rfl, hd.out.symm, rfl⟩
          · have hz : (a : Int) < (i : Int) := by omega
            have hz2 : ¬ (i : Int) < (md : Int) := by omega
            have hd := Lib.hid (decide_eq_false (fun h : a < i ∧ i < md => h2 h.2))
            go_wp2
            go_meet
            exact ⟨false, rfl, hd.out.symm, rfl⟩
          · have hz : (a : Int) < (i : Int) := by omega
            have hz2 : (i : Int) < (md : Int) := by omega
            have hd := Lib.hid (decide_eq_true (And.intro h1 h2))
            go_wp2
            go_meet
            exact ⟨true, rfl, hd.out.symm, rfl⟩
        obtain ⟨z, rfl, hz, rfl⟩ := hcut
        go_upto_if 199 with (fail)
        go_cut [] (fun wx => Hid (RowI g n cap base (P ++ sortB lt (X1 ++ Y1) ++ X2 ++ Y2 ++ S) wx) ∧ Hid (Below base w wx))
        case first => as_aux_lemma =>
          cases z with
          | true => as_aux_lemma =>
            have hz2 := of_decide_eq_true hz.out.symm
            have C := Lib.hid (IH.out a i md P X1 Y1 (X2 ++ Y2 ++ S) wr (by have := R2.out; simpa using this) (by have := HE.out; have := HL.out; omega) (by have := HE.out; have := HL.out; omega) (by have := HE.out; have := HL.out; omega) (by have := HE.out; have := HL.out; omega) (by have := HE.out; have := HL.out; omega) (by have := HE.out; have := HL.out; omega) X1s.out Y1s.out)
            go_wp2_with fail
            refine C.out.mono ?_
            rintro e w1 ⟨rfl, hr1, hb1⟩
            go_wp2
            go_meet
            exact ⟨by show RowI _ _ _ _ _ _; simpa using hr1, BB.out.trans hb1⟩
          | false => as_aux_lemma =>
            have hz2 := of_decide_eq_false hz.out.symm
            have hz3 : Hid (sortB lt (X1 ++ Y1) = X1 ++ Y1) := by
              show _ = _
              have := HE.out; have := HL.out
              rcases (by omega : X1.length = 0 ∨ Y1.length = 0) with h | h
              · rw [List.length_eq_zero_iff.1 h]; exact sortB_again _ Y1s.out
              · rw [List.length_eq_zero_iff.1 h, List.append_nil]; exact sortB_again _ X1s.out
            go_wp2
            go_meet
            refine ⟨?_, BB⟩
            have := R2.out
            show RowI _ _ _ _ _ _
            rw [hz3.out]
            simpa using this
        case rest =>
        clear hz BB R2
        obtain ⟨R2, BB⟩ := hcut
        generalize hwq : wc = wr at *
        clear hwq
        go_upto_region 43 with (fail)
        go_cut [213] (fun v wx => ∃ z : Bool, v = .bool z ∧ Hid (z = decide (md < en ∧ en < b)) ∧ wr = wx)
        case first => as_aux_lemma =>
          rcases (by omega : ¬ md < en ∨ (md < en ∧ ¬ en < b) ∨ (md < en ∧ en < b)) with h1 | ⟨h1, h2⟩ | ⟨h1, h2⟩
          · have hz : ¬ (md : Int) < (en : Int) := by omega
            have hd := Lib.hid (decide_eq_false (fun h : md < en ∧ en < b => h1 h.1))
            go_wp2
            go_meet
            exact ⟨false, rfl, hd.out.symm, rfl⟩
          · have hz : (md : Int) < (en : Int) := by omega
            have hz2 : ¬ (en : Int) < (b : Int) := by omega
            have hd := Lib.hid (decide_eq_false (fun h : md < en ∧ en < b => h2 h.2))
            go_wp2
            go_meet
            exact ⟨false, rfl, hd.out.symm, rfl⟩
          · have hz : (md : Int) < (en : Int) := by omega
            have hz2 : (en : Int) < (b : Int) := by omega
            have hd := Lib.hid (decide_eq_true (And.intro h1 h2))
            go_wp2
            go_meet
            exact ⟨true, rfl, hd.out.symm, rfl⟩
        obtain ⟨z, rfl, hz, rfl⟩ := hcut
        have hp1 := Lib.hid (show (P ++ sortB lt (X1 ++ Y1)).length = md by have := HE.out; have := HL.out; rw [List.length_append, sortB_len, List.length_append]; omega)
        cases z with
        | true => as_aux_lemma =>
          have hz2 := of_decide_eq_true hz.out.symm
          have C := Lib.hid (IH.out md en b (P ++ sortB lt (X1 ++ Y1)) X2 Y2 S wr R2.out hp1.out.symm (by have := HE.out; have := HL.out; rw [hp1.out]; omega) (by have := HE.out; have := HL.out; rw [hp1.out]; omega) (by have := HE.out; have := HL.out; omega) (by have := HE.out; have := HL.out; omega) (by have := HE.out; have := HL.out; omega) X2s.out Y2s.out)
          go_wp2_with fail
          refine C.out.mono ?_
          rintro e w1 ⟨rfl, hr1, hb1⟩
          go_wp2
          go_end0
          refine hQ.out _ ?_ (BB.out.trans hb1)
          rw [E.out]
          simpa using hr1
        | false => as_aux_lemma =>
          have hz2 := of_decide_eq_false hz.out.symm
          have hz3 : Hid (sortB lt (X2 ++ Y2) = X2 ++ Y2) := by
            show _ = _
            have := HE.out; have := HL.out
            rcases (by omega : X2.length = 0 ∨ Y2.length = 0) with h | h
            · rw [List.length_eq_zero_iff.1 h]; exact sortB_again _ Y2s.out
            · rw [List.length_eq_zero_iff.1 h, List.append_nil]; exact sortB_again _ X2s.out
          go_wp2
          go_end0
          refine hQ.out _ ?_ BB.out
          rw [E.out, hz3.out]
          simpa using R2.out
end Go.Proofs.YtgjbngfcllanmaaDoor
