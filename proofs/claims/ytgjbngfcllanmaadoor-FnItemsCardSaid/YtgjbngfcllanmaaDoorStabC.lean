/- The library's stable sort: a part of a row is sorted by insertion. -/
import Derived.Test.YtgjbngfcllanmaaDoorStabB
import Derived.Test.YtgjbngfcllanmaaDoorQuiet
import Derived.Shelf.Abstract
namespace Go.Proofs.YtgjbngfcllanmaaDoor
open Go.RowKit

/-- What a comparison of two items answers. -/
def CmpI (f : FuncId) (cf : It → It → Int) : Prop := ∀ (x y : It) (W : World),
  Calls Tryd.prog f #[.agg #[.int .i64 x.id, .int .i64 x.x0, .int .i64 x.y0, .int .i64 x.x1, .int .i64 x.y1], .agg #[.int .i64 y.id, .int .i64 y.x0, .int .i64 y.y0, .int .i64 y.x1, .int .i64 y.y1]] W fun e w' => e = .returned (.int .i64 (cf x y)) ∧ Below W.heap.size W w'

theorem getD_mid (A C : List It) (x : It) (i : Nat) (hi : i = A.length) : (A ++ x :: C).getD i zeroIt = x := by subst hi; simp [List.getD]
theorem sortB_one (lt : It → It → Bool) (l : List It) : sortB lt (l.take 1) ++ l.drop 1 = l := by
  cases l with
  | nil => rfl
  | cons x l => rfl

set_option maxHeartbeats 3200000 in
set_option maxRecDepth 100000 in
theorem insertion_core (g n cap base f a b : Nat) (cf : It → It → Int) (lt : It → It → Bool) (eg : ∀ args w, (callFunc f args).run Tryd.prog w = .ok (.enter f args) w) (hc : CmpI f cf) (hlt : ∀ x y, lt x y = decide (cf x y < 0))
    (P L S : List It) (w : World) (h : RowI g n cap base (P ++ L ++ S) w) (hn : n ≤ 1099511627776) (ha : a = P.length) (hb : b = P.length + L.length)
    (Q0 : Ending → World → Prop) (hQ : ∀ w', RowI g n cap base (P ++ sortB lt L ++ S) w' → Below base w w' → Q0 (.returned (.tuple #[])) w') :
    Calls Tryd.prog 69 #[.slice (some ⟨g, 0, none⟩) n cap, .int .i64 a, .int .i64 b, .func (.func f) #[] #[]] w Q0 := by
  replace hQ := Lib.hid hQ
  have H := Lib.hid h
  have hl : b ≤ n := by have := h.2; simp at this; omega
  have G := Lib.hid h.lt
  have HA := Lib.hid (And.intro ha hb)
  have hab : a ≤ b := by omega
  replace hc := Lib.hid hc
  replace hlt := Lib.hid hlt
  clear h ha hb
  go_enter Tryd.func69, Tryd.ntmps69
  go_wp2
  go_loopw [8] (fun vi wr => ∃ t : Nat, vi = .int .i64 ((a + t : Nat) : Int) ∧ 0 < t ∧ (t ≤ L.length ∨ t = 1) ∧ RowI g n cap base (P ++ sortB lt (L.take t) ++ L.drop t ++ S) wr ∧ Below base w wr) (fun vi _ => b + 1 - (intOf vi).toNat)
  case atStart =>
    refine ⟨1, by go_num, by omega, .inr rfl, ?_, Below.refl _ _⟩
    rw [List.append_assoc P, sortB_one]
    exact H.out
  case round =>
    obtain ⟨t, rfl, ht0, ht1, hr, hB⟩ := hrel
    have HA2 := HA.out
    by_cases hlt2 : t < L.length
    · have hys : (sortB lt (L.take t)).length = t := by rw [sortB_len, List.length_take]; omega
      obtain ⟨x, hx⟩ : ∃ x, L[t]? = some x := ⟨_, List.getElem?_eq_getElem hlt2⟩
      have hsn := Lib.hid (sortB_snoc lt L t x hx)
      have hdr : L.drop t = x :: L.drop (t + 1) := by
        rw [List.drop_eq_getElem_cons hlt2]; congr 1
        rw [List.getElem?_eq_getElem hlt2] at hx; simpa using hx
      generalize hY : sortB lt (L.take t) = ys at *
      obtain ⟨i, hi⟩ : ∃ i, i = a + t := ⟨_, rfl⟩
      rw [← hi]
      have HI : Hid (i = P.length + t ∧ b = P.length + L.length ∧ ys.length = t ∧ L.drop t = x :: L.drop (t + 1)) := Lib.hid ⟨by omega, by omega, hys, hdr⟩
      have hib : i < b := by omega
      have hai : a < i := by omega
      have z1 : (i : Int) < (b : Int) := by omega
      have R := Lib.hid hr
      have BB := Lib.hid hB
      replace hlt2 := Lib.hid hlt2
      clear hr hB hx hdr hY hys HA2 hi ht1
      go_wp2_with fail
      go_loopw [9] (fun vj w2 => ∃ u : Nat, vj = .int .i64 ((a + u : Nat) : Int) ∧ u ≤ t ∧ Hid (cutAt lt x ys t = cutAt lt x ys u) ∧ RowI g n cap base (P ++ (ys.take u ++ x :: ys.drop u) ++ L.drop (t + 1) ++ S) w2 ∧ Below base w w2) (fun vj _ => (intOf vj).toNat)
      case atStart =>
        obtain ⟨h1, h2, h3, h4⟩ := HI.out
        refine ⟨t, by rw [h1, HA.out.1], Nat.le_refl _, Lib.hid rfl, ?_, BB.out⟩
        have := R.out
        rw [h4] at this
        rw [List.take_of_length_le (by omega), List.drop_of_length_le (by omega)]
        simpa using this
      case round =>
        obtain ⟨u, rfl, hu, HC, hr, hB⟩ := hrel
        have R2 := Lib.hid hr
        have B2 := Lib.hid hB
        clear hB
        cases u with
        | zero =>
          clear hr
          have hng : ¬ ((a : Int) < (a : Int)) := by omega
          go_wp2_with fail
          go_big_region
          all_goals go_wp2
          go_roundw
          case rel =>
            obtain ⟨h1, h2, h3, h4⟩ := HI.out
            refine ⟨t + 1, by rw [h1, ← HA.out.1]; go_num, by omega, .inl (by have := hlt2.out; omega), ?_, B2.out.drew⟩
            rw [hsn.out, insB_at _ _ _ _ _ h3 HC.out]
            exact R2.out.drew
          case measure => simp [intOf]; omega
        | succ u =>
          obtain ⟨y, hy⟩ : ∃ y, ys[u]? = some y := ⟨_, List.getElem?_eq_getElem (by have := HI.out; omega)⟩
          have hyl : u < ys.length := by have := HI.out; omega
          have hgd : ys.getD u zeroIt = y := by simp [List.getD, hy]
          have htk : ys.take (u + 1) = ys.take u ++ [y] := by rw [List.take_add_one, hy]; rfl
          have hdp : ys.drop u = y :: ys.drop (u + 1) := by
            rw [List.drop_eq_getElem_cons hyl]; congr 1
            rw [List.getElem?_eq_getElem hyl] at hy; simpa using hy
          have E : P ++ (ys.take (u + 1) ++ x :: ys.drop (u + 1)) ++ L.drop (t + 1) ++ S = (P ++ ys.take u) ++ y :: x :: (ys.drop (u + 1) ++ L.drop (t + 1) ++ S) := by rw [htk]; simp
          obtain ⟨p, hp⟩ : ∃ p, p = a + u := ⟨_, rfl⟩
          have hpl : p = (P ++ ys.take u).length := by rw [List.length_append, List.length_take, ← HA.out.1]; omega
          rw [E] at hr
          have hin : a + t < n := by have := HI.out; have := HA.out; omega
          obtain ⟨c0, c1, c2, c3, c4⟩ := hr.get (i := p) (by omega) (getD_mid _ _ _ _ hpl)
          obtain ⟨d0, d1, d2, d3, d4⟩ := hr.get (i := p + 1) (x := x) (by omega) (by
            rw [show (P ++ ys.take u) ++ y :: x :: (ys.drop (u + 1) ++ L.drop (t + 1) ++ S) = (P ++ ys.take u ++ [y]) ++ x :: (ys.drop (u + 1) ++ L.drop (t + 1) ++ S) by simp]
            exact getD_mid _ _ _ _ (by rw [List.length_append, ← hpl]; rfl))
          obtain ⟨r, hr'⟩ : ∃ r, r = p + 1 := ⟨_, rfl⟩
          rw [show ((a + (u + 1) : Nat) : Int) = (r : Int) by omega]
          rw [← hr'] at d0 d1 d2 d3 d4
          have zg : (a : Int) < (r : Int) := by omega
          have zn : (r : Int) < (n : Int) := by omega
          have zn0 : (p : Int) < (n : Int) := by omega
          have hwp : IntKind.i64.wrap ((r : Int) - 1) = (p : Int) := by rw [IntKind.wrap_i64]; omega
          have C := Lib.hid (fun W => hc.out x y W)
          have HE := Lib.hid hr
          have HP := Lib.hid (And.intro hp (And.intro hpl (And.intro hdp (And.intro htk (And.intro hyl hr')))))
          replace hy := Lib.hid hy
          have q0 := cellq c0
          have q1 := cellq c1
          have q2 := cellq c2
          have q3 := cellq c3
          have q4 := cellq c4
          have r0 := cellq d0
          have r1 := cellq d1
          have r2 := cellq d2
          have r3 := cellq d3
          have r4 := cellq d4
          by_cases hv : cf x y < 0
          · have hcut := Lib.hid (HC.out.trans (cutAt_yes hgd (by rw [hlt.out, decide_eq_true hv])))
            clear hr hr' hp hpl hdp htk hgd E HC hyl c0 c1 c2 c3 c4 d0 d1 d2 d3 d4
            go_wp2_with fail
            refine wp_region_quiet_below (by kernel_rfl) (by kernel_rfl) ?_
            repeat (go_big_quiet_step (first | (go_at_fn f; with_reducible exact callr (C.out _))))
            refine wpQuiet_nil (quiet_end fun W hW => ?_)
            clear q0 q1 q2 q3 q4 r0 r1 r2 r3 r4
            have HE2 := Lib.hid (HE.out.below hW)
            have B3 := Lib.hid (B2.out.trans (hW.mono (by have := HE.out.lt; have := G.out; omega)))
            obtain ⟨c0, c1, c2, c3, c4⟩ := HE2.out.get (i := p) (by omega) (getD_mid _ _ _ _ HP.out.2.1)
            obtain ⟨d0, d1, d2, d3, d4⟩ := HE2.out.get (i := r) (x := x) (by omega) (by
              rw [show (P ++ ys.take u) ++ y :: x :: (ys.drop (u + 1) ++ L.drop (t + 1) ++ S) = (P ++ ys.take u ++ [y]) ++ x :: (ys.drop (u + 1) ++ L.drop (t + 1) ++ S) by simp]
              exact getD_mid _ _ _ _ (by rw [List.length_append, ← HP.out.2.1, HP.out.2.2.2.2.2]; rfl))
            have fz := HE2.out.froz
            obtain ⟨v, e0', e1', e2', e3', e4'⟩ := (HE2.out.set r (by omega) y).some (i := p) (by omega)
            have fz2 := (HE2.out.set r (by omega) y).froz
            go_wp2_with fail
            go_big_region
            all_goals go_wp2
            go_roundw
            case rel =>
              obtain ⟨hp, hpl, hdp, htk, hyl, hr'⟩ := HP.out
              refine ⟨u, by rw [hp], by omega, hcut, ?_, (below_set5 (below_set5 B3.out G.out.1 _ _ _ _ _ _ _ _ _ _) G.out.1 _ _ _ _ _ _ _ _ _ _).drew⟩
              have Q := HE2.out.swap r p (by omega) (by omega) (x := x) (y := y) (by
                rw [show (P ++ ys.take u) ++ y :: x :: (ys.drop (u + 1) ++ L.drop (t + 1) ++ S) = (P ++ ys.take u ++ [y]) ++ x :: (ys.drop (u + 1) ++ L.drop (t + 1) ++ S) by simp]
                exact getD_mid _ _ _ _ (by rw [List.length_append, ← hpl, hr']; rfl)) (getD_mid _ _ _ _ hpl)
              rw [swpI_prev _ _ _ _ _ _ (by rw [← hpl, hr']) hpl] at Q
              rw [show P ++ (ys.take u ++ x :: ys.drop u) ++ L.drop (t + 1) ++ S = (P ++ ys.take u) ++ x :: y :: (ys.drop (u + 1) ++ L.drop (t + 1) ++ S) by rw [hdp]; simp]
              exact Q
            case measure => have := HP.out; simp [intOf]; omega
          · have hcut := Lib.hid (HC.out.trans (cutAt_no hgd (by rw [hlt.out, decide_eq_false hv])))
            clear hr hr' hp hpl hdp htk hgd E HC hyl c0 c1 c2 c3 c4 d0 d1 d2 d3 d4
            go_wp2_with fail
            refine wp_region_quiet_below (by kernel_rfl) (by kernel_rfl) ?_
            repeat (go_big_quiet_step (first | (go_at_fn f; with_reducible exact callr (C.out _))))
            refine wpQuiet_nil (quiet_end fun W hW => ?_)
            clear q0 q1 q2 q3 q4 r0 r1 r2 r3 r4
            go_wp2
            go_roundw
            case rel =>
              obtain ⟨h1, h2, h3, h4⟩ := HI.out
              refine ⟨t + 1, by rw [h1, ← HA.out.1]; go_num, by omega, .inl (by have := hlt2.out; omega), ?_, B2.out.trans (hW.mono (by have := HE.out.lt; have := G.out; omega))⟩
              rw [hsn.out, insB_at _ _ _ _ _ h3 hcut.out]
              exact R2.out.below hW
            case measure => simp [intOf]; omega
    · have hz : ¬ (((a + t : Nat) : Int) < (b : Int)) := by omega
      go_wp2
      go_end0
      rw [List.take_of_length_le (by omega), List.drop_of_length_le (by omega), List.append_nil] at hr
      exact hQ.out _ hr hB

theorem insertion_any (g n cap base f a b : Nat) (cf : It → It → Int) (lt : It → It → Bool) (eg : ∀ args w, (callFunc f args).run Tryd.prog w = .ok (.enter f args) w) (hc : CmpI f cf) (hlt : ∀ x y, lt x y = decide (cf x y < 0))
    (P L S : List It) (w : World) (h : RowI g n cap base (P ++ L ++ S) w) (hn : n ≤ 1099511627776) (ha : a = P.length) (hb : b = P.length + L.length) :
    Calls Tryd.prog 69 #[.slice (some ⟨g, 0, none⟩) n cap, .int .i64 a, .int .i64 b, .func (.func f) #[] #[]] w fun e w' =>
      e = .returned (.tuple #[]) ∧ RowI g n cap base (P ++ sortB lt L ++ S) w' ∧ Below base w w' :=
  insertion_core g n cap base f a b cf lt eg hc hlt P L S w h hn ha hb _ fun _ h1 h2 => ⟨rfl, h1, h2⟩
end Go.Proofs.YtgjbngfcllanmaaDoor
