/- The library's stable sort: the merge of a part with one item. -/
import Derived.Test.YtgjbngfcllanmaaDoorStabE
namespace Go.Proofs.YtgjbngfcllanmaaDoor
open Go.RowKit

set_option maxHeartbeats 3200000 in
set_option maxRecDepth 100000 in
theorem mergeRight_any (g n cap base f a m b : Nat) (cf : It → It → Int) (lt : It → It → Bool) (eg : ∀ args w, (callFunc f args).run Tryd.prog w = .ok (.enter f args) w) (hc : CmpI f cf) (hlt : ∀ x y, lt x y = decide (cf x y < 0)) (hs : Strict lt)
    (P X S : List It) (y : It) (w : World) (h : RowI g n cap base (P ++ X ++ [y] ++ S) w) (hn : n ≤ 1099511627776) (ha : a = P.length) (hm : m = P.length + X.length) (hb : b = P.length + X.length + 1) (hX2 : 1 < X.length) (hX : Sorted lt X)
    (Q0 : Ending → World → Prop) (hQ : ∀ w', RowI g n cap base (P ++ sortB lt (X ++ [y]) ++ S) w' → Below base w w' → Q0 (.returned (.tuple #[])) w') :
    Calls Tryd.prog 70 #[.slice (some ⟨g, 0, none⟩) n cap, .int .i64 a, .int .i64 m, .int .i64 b, .func (.func f) #[] #[]] w Q0 := by
  have H := Lib.hid h
  have hl : b ≤ n := by have := h.2; simp at this; omega
  have G := Lib.hid h.lt
  have HA := Lib.hid (And.intro ha (And.intro hm hb))
  have ham : a < m := by omega
  have hmb : m < b := by omega
  replace hQ := Lib.hid hQ
  replace hc := Lib.hid hc
  replace hlt := Lib.hid hlt
  replace hX := Lib.hid hX
  obtain ⟨k0, hk0⟩ : ∃ k, k = X.length := ⟨_, rfl⟩
  have e1 : IntKind.i64.wrap ((m : Int) - (a : Int)) = (k0 : Int) := by rw [IntKind.wrap_i64]; omega
  have e2 : ((k0 : Int) == 1) = false := by rw [beq_eq_false_iff_ne]; omega
  have e3 : IntKind.i64.wrap ((b : Int) - (m : Int)) = 1 := by rw [IntKind.wrap_i64]; omega
  clear h ha hm hb hX2 hk0
  go_enter Tryd.func70, Tryd.ntmps70
  go_wp2_with fail
  go_loopw [14, 15] (fun vi vj wr => ∃ s u : Nat, vi = .int .i64 ((a + s : Nat) : Int) ∧ vj = .int .i64 ((a + u : Nat) : Int) ∧ s ≤ u ∧ a + u ≤ m ∧ Hid (s = 0 ∨ lt y (X.getD (s - 1) zeroIt) = false) ∧ Hid (u = X.length ∨ lt y (X.getD u zeroIt) = true) ∧ RowI g n cap base (P ++ X ++ [y] ++ S) wr ∧ Below base w wr) (fun vi vj _ => (intOf vj).toNat - (intOf vi).toNat)
  case atStart =>
    obtain ⟨ha, hm, hb⟩ := HA.out
    exact ⟨0, X.length, rfl, by congr 1; omega, Nat.zero_le _, by omega, .inl rfl, .inl rfl, H.out, Below.refl _ _⟩
  case round =>
    obtain ⟨s, u, rfl, rfl, hsu, hub, hS, hU, hr, hB⟩ := hrel
    have R := Lib.hid hr
    have BB := Lib.hid hB
    clear hr hB
    by_cases hlt2 : s < u
    · obtain ⟨i, hi⟩ : ∃ i, i = a + s := ⟨_, rfl⟩
      obtain ⟨j, hj⟩ : ∃ i, i = a + u := ⟨_, rfl⟩
      rw [← hi, ← hj]
      have z0 : (i : Int) < (j : Int) := by omega
      obtain ⟨p, hp⟩ : ∃ p, p = (i + j) / 2 := ⟨_, rfl⟩
      have hpi : i ≤ p ∧ p < j := by omega
      have eh : ((i : Int) + (j : Int)) / 2 = (p : Int) := by omega
      obtain ⟨k, hk⟩ : ∃ k, k = p - a := ⟨_, rfl⟩
      obtain ⟨x, hx⟩ : ∃ x, X.getD k zeroIt = x := ⟨_, rfl⟩
      have hA2 := HA.out
      obtain ⟨c0, c1, c2, c3, c4⟩ := R.out.get (i := p) (x := x) (by omega) (by rw [← hx, List.append_assoc (P ++ X)]; exact getD_snd P X ([y] ++ S) p k (by omega) (by omega))
      obtain ⟨d0, d1, d2, d3, d4⟩ := R.out.get (i := m) (x := y) (by omega) (getD_thd P X [y] S m 0 (by omega) (by simp))
      have zpn : (p : Int) < (n : Int) := by omega
      have zmn : (m : Int) < (n : Int) := by omega
      have C := Lib.hid (fun W => hc.out y x W)
      have HP := Lib.hid (And.intro hi (And.intro hj (And.intro hk (And.intro hpi hA2))))
      have q0 := cellq c0
      have q1 := cellq c1
      have q2 := cellq c2
      have q3 := cellq c3
      have q4 := cellq c4
      have r0 := cellq d0
      have r1 := cellq d1
      have r2 := cellq d2
      have r3 := cellq d3
      have r4 := cellq d4
      replace hx := Lib.hid hx
      clear hi hj hk hpi hA2 hp c0 c1 c2 c3 c4 d0 d1 d2 d3 d4
      by_cases hv : cf y x < 0
      · have hl2 := Lib.hid (show lt y (X.getD k zeroIt) = true by rw [hx.out, hlt.out, decide_eq_true hv])
        go_wp2_with fail
        refine wp_region_quiet_below (by kernel_rfl) (by kernel_rfl) ?_
        repeat (go_big_quiet_step (first | (go_at_fn f; with_reducible exact callr (C.out _))))
        refine wpQuiet_nil (quiet_end fun W hW => ?_)
        clear q0 q1 q2 q3 q4 r0 r1 r2 r3 r4
        go_wp2
        go_roundw
        case rel =>
          obtain ⟨hi, hj, hk, hpi, hA2⟩ := HP.out
          exact ⟨s, k, by rw [hi], by go_num, by omega, by omega, hS, .inr hl2.out, R.out.below hW, BB.out.trans (hW.mono (by have := R.out.lt; have := G.out; omega))⟩
        case measure => have := HP.out; simp [intOf]; omega
      · have hl2 := Lib.hid (show lt y (X.getD k zeroIt) = false by rw [hx.out, hlt.out, decide_eq_false hv])
        have hvb : (!decide (cf y x < 0)) = true := by rw [decide_eq_false hv]; rfl
        go_wp2_with fail
        refine wp_region_quiet_below (by kernel_rfl) (by kernel_rfl) ?_
        repeat (go_big_quiet_step (first | (go_at_fn f; with_reducible exact callr (C.out _))))
        refine wpQuiet_nil (quiet_end fun W hW => ?_)
        clear q0 q1 q2 q3 q4 r0 r1 r2 r3 r4
        go_wp2
        go_roundw
        case rel =>
          obtain ⟨hi, hj, hk, hpi, hA2⟩ := HP.out
          refine ⟨k + 1, u, by go_num, by rw [hj], by omega, by omega, .inr ?_, hU, R.out.below hW, BB.out.trans (hW.mono (by have := R.out.lt; have := G.out; omega))⟩
          rw [Nat.add_sub_cancel]
          exact hl2.out
        case measure => have := HP.out; simp [intOf]; omega
    · obtain rfl : s = u := by omega
      obtain ⟨i, hi⟩ : ∃ i, i = a + s := ⟨_, rfl⟩
      rw [← hi]
      have hsX : s ≤ X.length := by have := HA.out; omega
      have E := Lib.hid (right_cut hs y X s hX.out hsX hS.out hU.out)
      have HI := Lib.hid (And.intro hi hsX)
      clear hi hsX hS hU
      go_wp2_with fail
      go_loopw [17] (fun vk w2 => ∃ t : Nat, vk = .int .i64 ((a + t : Nat) : Int) ∧ s ≤ t ∧ t ≤ X.length ∧ RowI g n cap base (P ++ (X.take t ++ y :: X.drop t) ++ S) w2 ∧ Below base w w2) (fun vk _ => (intOf vk).toNat)
      case atStart => exact ⟨X.length, by have := HA.out; congr 1; omega, by have := HI.out; omega, Nat.le_refl _, by have := R.out; simpa using this, BB.out⟩
      case round =>
        obtain ⟨t, rfl, hst, htX, hr, hB⟩ := hrel
        have R2 := Lib.hid hr
        have B2 := Lib.hid hB
        clear hB
        by_cases ht : s < t
        · obtain ⟨t, rfl⟩ : ∃ t', t = t' + 1 := ⟨t - 1, by omega⟩
          obtain ⟨p, hp⟩ : ∃ p, p = a + t := ⟨_, rfl⟩
          obtain ⟨q, hq⟩ : ∃ q, q = p + 1 := ⟨_, rfl⟩
          obtain ⟨x, hx⟩ : ∃ x, X.getD t zeroIt = x := ⟨_, rfl⟩
          have E2 : P ++ (X.take (t + 1) ++ y :: X.drop (t + 1)) ++ S = (P ++ X.take t) ++ x :: y :: (X.drop (t + 1) ++ S) := by rw [getD_take X t htX, hx]; simp
          have hpl : p = (P ++ X.take t).length := by rw [List.length_append, List.length_take, ← HA.out.1]; omega
          have hql : q = (P ++ X.take t ++ [x]).length := by rw [List.length_append, ← hpl, hq]; rfl
          rw [E2] at hr
          have hqn : q < n := by have := HA.out; omega
          obtain ⟨c0, c1, c2, c3, c4⟩ := hr.get (i := p) (by omega) (getD_mid _ _ _ _ hpl)
          obtain ⟨d0, d1, d2, d3, d4⟩ := hr.get (i := q) (x := y) (by omega) (by
            rw [show (P ++ X.take t) ++ x :: y :: (X.drop (t + 1) ++ S) = (P ++ X.take t ++ [x]) ++ y :: (X.drop (t + 1) ++ S) by simp]
            exact getD_mid _ _ _ _ hql)
          have fz := hr.froz
          obtain ⟨v, e0', e1', e2', e3', e4'⟩ := (hr.set q (by omega) x).some (i := p) (by omega)
          have fz2 := (hr.set q (by omega) x).froz
          have SW := Lib.hid (hr.swap q p (by omega) (by omega) (x := y) (by
            rw [show (P ++ X.take t) ++ x :: y :: (X.drop (t + 1) ++ S) = (P ++ X.take t ++ [x]) ++ y :: (X.drop (t + 1) ++ S) by simp]
            exact getD_mid _ _ _ _ hql) (getD_mid _ _ _ _ hpl))
          rw [show ((a + (t + 1) : Nat) : Int) = (q : Int) by omega]
          have zl : (i : Int) < (q : Int) := by have := HI.out; omega
          have zp : (p : Int) < (n : Int) := by omega
          have zq : (q : Int) < (n : Int) := by omega
          have eq : IntKind.i64.wrap ((q : Int) - 1) = (p : Int) := by rw [IntKind.wrap_i64]; omega
          have HP := Lib.hid (And.intro hp (And.intro hq (And.intro hpl (And.intro htX (And.intro hx hql)))))
          clear hr hp hq hpl hql htX hx E2
          go_wp2_with fail
          go_big_region
          all_goals go_wp2
          all_goals
            go_roundw
            case rel =>
              obtain ⟨hp, hq, hpl, htl, hx, hql⟩ := HP.out
              refine ⟨t, by go_num, by omega, by omega, ?_, (below_set5 (below_set5 B2.out G.out.1 _ _ _ _ _ _ _ _ _ _) G.out.1 _ _ _ _ _ _ _ _ _ _).drew⟩
              have Q := SW.out
              rw [swpI_prev _ _ _ _ _ _ (by rw [hq, hpl]) hpl] at Q
              rw [show P ++ (X.take t ++ y :: X.drop t) ++ S = (P ++ X.take t) ++ y :: x :: (X.drop (t + 1) ++ S) by rw [getD_drop X t htl, hx]; simp]
              exact Q
            case measure => have := HP.out; simp [intOf]; omega
        · obtain rfl : s = t := by omega
          have zl : ¬ ((i : Int) < ((a + s : Nat) : Int)) := by have := HI.out; omega
          clear hr
          go_wp2
          go_end0
          refine hQ.out _ ?_ B2.out
          rw [E.out]
          exact R2.out
end Go.Proofs.YtgjbngfcllanmaaDoor
