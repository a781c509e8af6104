/- The library's stable sort: the merge of one item with a part. -/
import Derived.Test.YtgjbngfcllanmaaDoorStabE
namespace Go.Proofs.YtgjbngfcllanmaaDoor
open Go.RowKit

set_option maxHeartbeats 3200000 in
set_option maxRecDepth 100000 in
theorem mergeLeft_any (g n cap base f a m b : Nat) (cf : It → It → Int) (lt : It → It → Bool) (eg : ∀ args w, (callFunc f args).run Tryd.prog w = .ok (.enter f args) w) (hc : CmpI f cf) (hlt : ∀ x y, lt x y = decide (cf x y < 0)) (hs : Strict lt)
    (P Y S : List It) (x : It) (w : World) (h : RowI g n cap base (P ++ [x] ++ Y ++ S) w) (hn : n ≤ 1099511627776) (ha : a = P.length) (hm : m = P.length + 1) (hb : b = P.length + 1 + Y.length) (hY : Sorted lt Y)
    (Q0 : Ending → World → Prop) (hQ : ∀ w', RowI g n cap base (P ++ sortB lt (x :: Y) ++ S) w' → Below base w w' → Q0 (.returned (.tuple #[])) w') :
    Calls Tryd.prog 70 #[.slice (some ⟨g, 0, none⟩) n cap, .int .i64 a, .int .i64 m, .int .i64 b, .func (.func f) #[] #[]] w Q0 := by
  have H := Lib.hid h
  have hl : b ≤ n := by have := h.2; simp at this; omega
  have G := Lib.hid h.lt
  have HA := Lib.hid (And.intro ha (And.intro hm hb))
  have ham : a < m := by omega
  have hmb : m ≤ b := by omega
  replace hQ := Lib.hid hQ
  replace hc := Lib.hid hc
  replace hlt := Lib.hid hlt
  replace hY := Lib.hid hY
  have e1 : IntKind.i64.wrap ((m : Int) - (a : Int)) = 1 := by rw [IntKind.wrap_i64]; omega
  clear h ha hm hb
  go_enter Tryd.func70, Tryd.ntmps70
  go_wp2_with fail
  go_loopw [10, 11] (fun vi vj wr => ∃ s u : Nat, vi = .int .i64 ((m + s : Nat) : Int) ∧ vj = .int .i64 ((m + u : Nat) : Int) ∧ s ≤ u ∧ m + u ≤ b ∧ Hid (s = 0 ∨ lt (Y.getD (s - 1) zeroIt) x = true) ∧ Hid (u = Y.length ∨ lt (Y.getD u zeroIt) x = false) ∧ RowI g n cap base (P ++ [x] ++ Y ++ S) wr ∧ Below base w wr) (fun vi vj _ => (intOf vj).toNat - (intOf vi).toNat)
  case atStart =>
    obtain ⟨ha, hm, hb⟩ := HA.out
    exact ⟨0, Y.length, rfl, by congr 1; omega, Nat.zero_le _, by omega, .inl rfl, .inl rfl, H.out, Below.refl _ _⟩
  case round =>
    obtain ⟨s, u, rfl, rfl, hsu, hub, hS, hU, hr, hB⟩ := hrel
    have R := Lib.hid hr
    have BB := Lib.hid hB
    clear hr hB
    by_cases hlt2 : s < u
    · obtain ⟨i, hi⟩ : ∃ i, i = m + s := ⟨_, rfl⟩
      obtain ⟨j, hj⟩ : ∃ i, i = m + u := ⟨_, rfl⟩
      rw [← hi, ← hj]
      have z0 : (i : Int) < (j : Int) := by omega
      obtain ⟨p, hp⟩ : ∃ p, p = (i + j) / 2 := ⟨_, rfl⟩
      have hpi : i ≤ p ∧ p < j := by omega
      have eh : ((i : Int) + (j : Int)) / 2 = (p : Int) := by omega
      obtain ⟨k, hk⟩ : ∃ k, k = p - m := ⟨_, rfl⟩
      obtain ⟨y, hy⟩ : ∃ y, Y.getD k zeroIt = y := ⟨_, rfl⟩
      have hA2 := HA.out
      obtain ⟨c0, c1, c2, c3, c4⟩ := R.out.get (i := p) (x := y) (by omega) (by rw [← hy]; exact getD_thd P [x] Y S p k (by simp; omega) (by omega))
      obtain ⟨d0, d1, d2, d3, d4⟩ := R.out.get (i := a) (x := x) (by omega) (by
        rw [List.append_assoc (P ++ [x])]
        exact getD_snd P [x] (Y ++ S) a 0 (by omega) (by simp))
      have zpn : (p : Int) < (n : Int) := by omega
      have zan : (a : Int) < (n : Int) := by omega
      have C := Lib.hid (fun W => hc.out y x W)
      have HP := Lib.hid (And.intro hi (And.intro hj (And.intro hk (And.intro hpi hA2))))
      have q0 := cellq c0
      have q1 := cellq c1
      have q2 := cellq c2
      have q3 := cellq c3
      have q4 := cellq c4
      have r0 := cellq d0
      have r1 := cellq d1
      have r2 := cellq d2
      have r3 := cellq d3
      have r4 := cellq d4
      replace hy := Lib.hid hy
      clear hi hj hk hpi hA2 hp c0 c1 c2 c3 c4 d0 d1 d2 d3 d4
      by_cases hv : cf y x < 0
      · have hl2 := Lib.hid (show lt (Y.getD k zeroIt) x = true by rw [hy.out, hlt.out, decide_eq_true hv])
        go_wp2_with fail
        refine wp_region_quiet_below (by kernel_rfl) (by kernel_rfl) ?_
        repeat (go_big_quiet_step (first | (go_at_fn f; with_reducible exact callr (C.out _))))
        refine wpQuiet_nil (quiet_end fun W hW => ?_)
        clear q0 q1 q2 q3 q4 r0 r1 r2 r3 r4
        go_wp2
        go_roundw
        case rel =>
          obtain ⟨hi, hj, hk, hpi, hA2⟩ := HP.out
          refine ⟨k + 1, u, by go_num, by rw [hj], by omega, by omega, .inr ?_, hU, R.out.below hW, BB.out.trans (hW.mono (by have := R.out.lt; have := G.out; omega))⟩
          rw [Nat.add_sub_cancel]
          exact hl2.out
        case measure => have := HP.out; simp [intOf]; omega
      · have hl2 := Lib.hid (show lt (Y.getD k zeroIt) x = false by rw [hy.out, hlt.out, decide_eq_false hv])
        go_wp2_with fail
        refine wp_region_quiet_below (by kernel_rfl) (by kernel_rfl) ?_
        repeat (go_big_quiet_step (first | (go_at_fn f; with_reducible exact callr (C.out _))))
        refine wpQuiet_nil (quiet_end fun W hW => ?_)
        clear q0 q1 q2 q3 q4 r0 r1 r2 r3 r4
        go_wp2
        go_roundw
        case rel =>
          obtain ⟨hi, hj, hk, hpi, hA2⟩ := HP.out
          exact ⟨s, k, by rw [hi], by go_num, by omega, by omega, hS, .inr hl2.out, R.out.below hW, BB.out.trans (hW.mono (by have := R.out.lt; have := G.out; omega))⟩
        case measure => have := HP.out; simp [intOf]; omega
    · obtain rfl : s = u := by omega
      obtain ⟨i, hi⟩ : ∃ i, i = m + s := ⟨_, rfl⟩
      rw [← hi]
      have hsY : s ≤ Y.length := by have := HA.out; omega
      have E := Lib.hid (left_cut hs x Y s hY.out hsY hS.out hU.out)
      obtain ⟨l, hl2⟩ : ∃ l, l = a + s := ⟨_, rfl⟩
      have ei : IntKind.i64.wrap ((i : Int) - 1) = (l : Int) := by have := HA.out; rw [IntKind.wrap_i64]; omega
      have HI := Lib.hid (And.intro hi (And.intro hsY (And.intro hl2 (show l < n by have := HA.out; omega))))
      clear hi hsY hS hU hl2
      go_wp2_with fail
      go_loopw [13] (fun vk w2 => ∃ t : Nat, vk = .int .i64 ((a + t : Nat) : Int) ∧ t ≤ s ∧ RowI g n cap base (P ++ (Y.take t ++ x :: Y.drop t) ++ S) w2 ∧ Below base w w2) (fun vk _ => l - (intOf vk).toNat)
      case atStart => exact ⟨0, rfl, Nat.zero_le _, by have := R.out; simpa using this, BB.out⟩
      case round =>
        obtain ⟨t, rfl, hts, hr, hB⟩ := hrel
        have R2 := Lib.hid hr
        have B2 := Lib.hid hB
        clear hB
        by_cases ht : t < s
        · obtain ⟨p, hp⟩ : ∃ p, p = a + t := ⟨_, rfl⟩
          obtain ⟨q, hq⟩ : ∃ q, q = p + 1 := ⟨_, rfl⟩
          obtain ⟨y, hy⟩ : ∃ y, Y.getD t zeroIt = y := ⟨_, rfl⟩
          have htl : t < Y.length := by have := HI.out; omega
          have E2 : P ++ (Y.take t ++ x :: Y.drop t) ++ S = (P ++ Y.take t) ++ x :: y :: (Y.drop (t + 1) ++ S) := by rw [getD_drop Y t htl, hy]; simp
          have hpl : p = (P ++ Y.take t).length := by rw [List.length_append, List.length_take, ← HA.out.1]; omega
          have hql : q = (P ++ Y.take t ++ [x]).length := by rw [List.length_append, ← hpl, hq]; rfl
          rw [E2] at hr
          have hqn : q < n := by have := HI.out; omega
          obtain ⟨c0, c1, c2, c3, c4⟩ := hr.get (i := p) (by omega) (getD_mid _ _ _ _ hpl)
          obtain ⟨d0, d1, d2, d3, d4⟩ := hr.get (i := q) (x := y) (by omega) (by
            rw [show (P ++ Y.take t) ++ x :: y :: (Y.drop (t + 1) ++ S) = (P ++ Y.take t ++ [x]) ++ y :: (Y.drop (t + 1) ++ S) by simp]
            exact getD_mid _ _ _ _ hql)
          have fz := hr.froz
          obtain ⟨v, e0', e1', e2', e3', e4'⟩ := (hr.set p (by omega) y).some (i := q) (by omega)
          have fz2 := (hr.set p (by omega) y).froz
          have SW := Lib.hid (hr.swap p q (by omega) (by omega) (getD_mid _ _ _ _ hpl) (y := y) (by
            rw [show (P ++ Y.take t) ++ x :: y :: (Y.drop (t + 1) ++ S) = (P ++ Y.take t ++ [x]) ++ y :: (Y.drop (t + 1) ++ S) by simp]
            exact getD_mid _ _ _ _ hql))
          rw [show ((a + t : Nat) : Int) = (p : Int) by omega]
          have zl : (p : Int) < (l : Int) := by have := HI.out; omega
          have zp : (p : Int) < (n : Int) := by omega
          have zq : (q : Int) < (n : Int) := by omega
          have eq : IntKind.i64.wrap ((p : Int) + 1) = (q : Int) := by rw [IntKind.wrap_i64]; omega
          have HP := Lib.hid (And.intro hp (And.intro hq (And.intro hpl (And.intro htl (And.intro hy hql)))))
          clear hr hp hq hpl hql htl hy E2
          go_wp2_with fail
          go_big_region
          all_goals go_wp2
          all_goals
            go_roundw
            case rel =>
              obtain ⟨hp, hq, hpl, htl, hy, hql⟩ := HP.out
              refine ⟨t + 1, by go_num, by omega, ?_, (below_set5 (below_set5 B2.out G.out.1 _ _ _ _ _ _ _ _ _ _) G.out.1 _ _ _ _ _ _ _ _ _ _).drew⟩
              have Q := SW.out
              rw [swpI_next _ _ _ _ _ _ hpl (by rw [hq, hpl])] at Q
              rw [show P ++ (Y.take (t + 1) ++ x :: Y.drop (t + 1)) ++ S = (P ++ Y.take t) ++ y :: x :: (Y.drop (t + 1) ++ S) by rw [getD_take Y t htl, hy]; simp]
              exact Q
            case measure => have := HP.out; simp [intOf]; omega
        · obtain rfl : t = s := by omega
          have zl : ¬ (((a + t : Nat) : Int) < (l : Int)) := by have := HI.out; omega
          clear hr
          go_wp2
          go_end0
          refine hQ.out _ ?_ B2.out
          rw [E.out]
          exact R2.out
end Go.Proofs.YtgjbngfcllanmaaDoor
