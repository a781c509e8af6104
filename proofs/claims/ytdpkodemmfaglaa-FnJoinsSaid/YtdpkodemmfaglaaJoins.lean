/- The law FnJoins: the join of all rectangles contains each of them, in any order. -/
import Derived.Test.YtdpkodemmfaglaaDrawJoins
import Derived.Test.YtdpkodemmfaglaaJoinAll
import Derived.Test.YtdpkodemmfaglaaBig
import Derived.Lib.QuietBelow
namespace Go.Proofs.Ytdpkodemmfaglaa
open Go.RowKit

theorem joinB_comm (a b : Bx) : joinB a b = joinB b a := by simp only [joinB, lst_min, mst_max, Bx.mk.injEq]; omega
theorem joinB_assoc (a b c : Bx) : joinB (joinB a b) c = joinB a (joinB b c) := by simp only [joinB, lst_min, mst_max, Bx.mk.injEq]; omega
theorem foldl_joinB (x : Bx) (l : List Bx) (y : Bx) : l.foldl joinB (joinB x y) = joinB x (l.foldl joinB y) := by
  induction l generalizing y with
  | nil => rfl
  | cons z l ih => rw [List.foldl_cons, List.foldl_cons, joinB_assoc, ih]
theorem joinAll_cons (x : Bx) (l : List Bx) (h : l ≠ []) : joinAll (x :: l) = joinB x (joinAll l) := by
  cases l with
  | nil => exact absurd rfl h
  | cons y l => show (y :: l).foldl joinB x = joinB x (l.foldl joinB y); rw [List.foldl_cons, foldl_joinB]
theorem joinAll_reverse (l : List Bx) : joinAll l.reverse = joinAll l := by
  induction l with
  | nil => rfl
  | cons x l ih =>
    rw [List.reverse_cons]
    by_cases h : l = []
    · subst h; rfl
    · rw [joinAll_snoc _ _ (by simpa using h), ih, joinAll_cons x l h, joinB_comm]
/-- b lies in a. -/
def Has (a b : Bx) : Prop := a.x0 ≤ b.x0 ∧ a.y0 ≤ b.y0 ∧ b.x1 ≤ a.x1 ∧ b.y1 ≤ a.y1
theorem has_joinB (a b : Bx) : Has (joinB a b) a ∧ Has (joinB a b) b := by simp only [Has, joinB, lst_min, mst_max]; omega
theorem has_trans {a b c : Bx} (h : Has a b) (k : Has b c) : Has a c := by unfold Has at *; omega
theorem joinAll_has (l : List Bx) (x : Bx) (hx : x ∈ l) : Has (joinAll l) x := by
  induction l with
  | nil => cases hx
  | cons y l ih =>
    by_cases h : l = []
    · subst h
      obtain rfl : x = y := by simpa using hx
      show Has x x
      unfold Has; omega
    · rw [joinAll_cons y l h]
      rcases List.mem_cons.1 hx with rfl | hx
      · exact (has_joinB _ _).1
      · exact has_trans (has_joinB _ _).2 (ih hx)
theorem holds_has {a b : Bx} (h : Has a b) : holdsB a.x0 a.y0 a.x1 a.y1 b.x0 b.y0 b.x1 b.y1 = true := (holdsB_iff _ _ _ _ _ _ _ _).2 h

theorem rev_drop (xs : List Bx) (k : Nat) (x : Bx) (hx : xs[k]? = some x) : (xs.drop (k + 1)).reverse ++ [x] = (xs.drop k).reverse := by
  obtain ⟨hlt, rfl⟩ := List.getElem?_eq_some_iff.1 hx
  rw [List.drop_eq_getElem_cons hlt, List.reverse_cons]

set_option maxHeartbeats 1600000 in
theorem fnJoins_walk (a : Option Addr) (n cap : Nat) (zs : List Int) (w : World) (h : RdI .u8 w a n cap zs) (hz : ∀ z ∈ zs, 0 ≤ z ∧ z ≤ 255) :
    Calls Try.prog 4 #[.slice a n cap] w fun e w' => e = .returned (.bool true) ∧ Below w.heap.size w w' := by
  have hln := h.1.1
  subst hln
  have HZ := Lib.hid hz
  clear hz
  by_cases hn : zs.length ≤ 1048576
  · obtain ⟨i0, hi, hz0, hz1, hz2⟩ := info_parts Try.infoBox
    have HZ2 := Lib.hid hz2
    clear hz2
    go_enter Try.func4, Try.ntmps4
    go_wp2_with fail
    refine (big_no a _ cap _ hn).mono ?_
    rintro e w0 ⟨rfl, rfl⟩
    go_wp2_with fail
    refine (drawJoinAll_any a cap zs _ h HZ.out hn).mono ?_
    rintro e w1 ⟨v, xs, rfl, hxl, o1, b1⟩
    obtain ⟨a1, c1, rfl, r1⟩ := o1.rd
    clear o1
    go_wp2_with fail
    refine (iJoinAll_any a1 _ c1 xs _ r1).mono ?_
    rintro e w2 ⟨rfl, b2⟩
    have B := b1.trans (b2.mono b1.size)
    replace r1 := r1.below b2
    clear b1 b2
    obtain ⟨J, hJ⟩ : ∃ J, J = joinAll xs := ⟨_, rfl⟩
    rw [← hJ]
    have HJ := Lib.hid hJ
    clear hJ
    have Q := Lib.hid (blk_new w2 #[.int .i64 J.x0, .int .i64 J.y0, .int .i64 J.x1, .int .i64 J.y1] 25)
    have RL := Lib.hid (r1.below (new_below w2 (.cells #[.int .i64 J.x0, .int .i64 J.y0, .int .i64 J.x1, .int .i64 J.y1] 25)))
    have hO := Lib.hid (World.ownsRow_lit (w2.alloc (.cells #[.int .i64 J.x0, .int .i64 J.y0, .int .i64 J.x1, .int .i64 J.y1] 25)) (base := w2.heap.size + 1) (e := 25) (size := 4) #[] 0 (by simp) (by simp [maxLen]) rfl)
    clear r1
    obtain ⟨W3, hW3⟩ : ∃ W3, W3 = w2.alloc (.cells #[.int .i64 J.x0, .int .i64 J.y0, .int .i64 J.x1, .int .i64 J.y1] 25) := ⟨_, rfl⟩
    have hs3 : W3.heap.size = w2.heap.size + 1 := by rw [hW3]; simp
    have HB3 := Lib.hid (show Below w.heap.size w W3 by rw [hW3]; exact B.alloc B.size _)
    rw [← hW3] at RL Q hO
    have HW3 := Lib.hid hW3
    have HS3 := Lib.hid hs3
    have hs3' : W3.heap.size ≤ w2.heap.size + 1 := by omega
    have hs3'' : w2.heap.size + 1 ≤ W3.heap.size := by omega
    clear hW3 hs3 B
    go_wp2
    rw [← HW3.out]
    go_loopw [5, 6] (fun v i wr => ∃ (k : Nat) (t : Int) (ys : List Bx), t + 1 = k ∧ k ≤ xs.length ∧ i = .int .i64 t ∧ Hid (ys = (xs.drop k).reverse) ∧ wr.ownsRow (w2.heap.size + 1) 25 4 v ys.length (ys.flatMap bxLay.cells) ∧ Below W3.heap.size W3 wr)
      (fun _ i _ => (intOf i + 1).toNat)
    case atStart =>
      refine ⟨xs.length, _, [], ?_, Nat.le_refl _, rfl, ?_, ?_, new_below W3 _⟩
      · omega
      · show [] = (xs.drop xs.length).reverse
        rw [List.drop_length]; rfl
      · have := hO.out
        rw [HS3.out] at this
        exact this
    case round =>
      obtain ⟨k, t, ys, hkt, hkn, rfl, hys, ho, hB⟩ := hrel
      obtain ⟨a', c', hv⟩ := owns_shape ho
      subst hv
      have HO := Lib.hid ho
      have hszr := hB.size
      clear ho hO
      have hq := Lib.hid (below_keep hB (by omega) _ _ Q.out)
      have RR := Lib.hid (RL.out.below hB)
      by_cases hlt : 0 ≤ t
      · obtain ⟨m, rfl⟩ := Int.eq_ofNat_of_zero_le hlt
        obtain rfl : k = m + 1 := by omega
        have hml : m < xs.length := by omega
        obtain ⟨b', off, x, rfl, hbl, hx, d0, d1, d2, d3⟩ := rdBx_at RR.out hml
        have hlen : ys.length ≤ 4 := by rw [hys.out]; simp; omega
        have hrd : Hid (ys ++ [x] = (xs.drop m).reverse) := by rw [hys.out]; exact rev_drop xs m x hx
        have hh : holdsB J.x0 J.y0 J.x1 J.y1 x.x0 x.y0 x.x1 x.y1 = true := by
          rw [HJ.out]
          exact holds_has (joinAll_has xs x (List.mem_of_getElem? hx))
        have z1 : (m : Int) < xs.length := by omega
        have hX := Lib.hid hx
        clear hx hkt
        go_wp2_with (at_builtin; refine append_src rfl (.tmp 21) (.tmp 26) 34 rfl (w2.heap.size + 1) 25 i0 _ 4 32 Try.underlying34 hi hz0 hz1 HZ2.out rfl (by decide) (.slice a' ys.length c') ys.length (ys.flatMap bxLay.cells) rfl (HO.out.alloc _) (some ⟨wr.heap.size, 0, none⟩) 1 1 (bxLay.cells x) rfl rfl (fun h => by cases h) ?_ (bxLay.one _) ?_ ?_ ?_ ?_)
        case refine_1 =>
          intro p hp
          cases hp
          exact World.news_of_block (cs := #[.int .i64 x.x0, .int .i64 x.y0, .int .i64 x.x1, .int .i64 x.y1]) (t := 25) (fr := (0, 0)) (heap_alloc_new wr _)
        case refine_2 => unfold maxLen; omega
        case refine_3 => omega
        case refine_4 => simp; omega
        intro v' w5 hown2 hgrow2
        have HB5 := Lib.hid ((hB.alloc hszr _).grown hgrow2 (by simp; omega) (fun j hj => by have := (HO.out.lt j hj).1; omega))
        have hs5 := HB5.out.size
        obtain ⟨q0, q1⟩ := below_keep HB5.out (by omega) _ _ Q.out
        have hbw : b' < W3.heap.size := RL.out.lt (by omega) rfl
        obtain ⟨_, _, y, ey, _, hy, p0, p1, p2, p3⟩ := rdBx_at (RL.out.below HB5.out) hml
        obtain ⟨rfl, rfl⟩ : b' = _ ∧ off = _ := by simpa using ey
        have hx' := Lib.hid hy
        have HO2 := Lib.hid hown2
        clear hown2 hgrow2 ey hy d0 d1 d2 d3
        have eyx : y = x := Option.some.inj (hx'.out.symm.trans hX.out)
        subst eyx
        go_wp2
        go_region_with ((with_reducible refine (iHolds_any _ _ _ _ _ _ _ _ _).mono ?_); rintro e w6 ⟨rfl, hj⟩)
        all_goals
          go_wp2
          go_roundw
          case rel =>
            refine ⟨m, (m : Int) - 1, ys ++ [y], by omega, by omega, rfl, hrd, ?_, HB5.out.drew.trans (hj.mono HB5.out.size)⟩
            have h6 := OwnS.below (w := w5.drew) (L := bxLay) (xs := ys ++ [y]) (e := 25) (base := w2.heap.size + 1) (v := v') (by
              unfold OwnS
              rw [List.length_append, List.flatMap_append, List.flatMap_cons, List.flatMap_nil, List.append_nil]
              exact HO2.out) hj
            exact h6
          case measure => simp [intOf]
      · obtain rfl : k = 0 := by omega
        have hys' : Hid (ys = xs.reverse) := by have := hys.out; rw [List.drop_zero] at this; exact this
        have hE : ∀ W : World, (binOp .eql 25 (.agg #[.int .i64 J.x0, .int .i64 J.y0, .int .i64 J.x1, .int .i64 J.y1]) (.agg #[.int .i64 J.x0, .int .i64 J.y0, .int .i64 J.x1, .int .i64 J.y1])).run Try.prog W = .ok (.bool true) W := fun W => by
          rw [eqBox_run, boxEq_self]
        have hh : holdsB J.x0 J.y0 J.x1 J.y1 J.x0 J.y0 J.x1 J.y1 = true := holds_has (by unfold Has; omega)
        obtain ⟨a5, c5, hv5, rt⟩ := OwnS.rd (L := bxLay) (xs := ys) HO.out
        simp only [Value.slice.injEq, true_and] at hv5
        obtain ⟨rfl, rfl⟩ := hv5
        have c0 : ∀ d os, (Go.Sort.grow (redrawn wr d) os).cell? ⟨w2.heap.size, 0, none⟩ = some (.int .i64 J.x0) := Go.cell_regrown (hq.out.1 0)
        have c1' : ∀ d os, (Go.Sort.grow (redrawn wr d) os).cell? ⟨w2.heap.size, 1, none⟩ = some (.int .i64 J.y0) := Go.cell_regrown (hq.out.1 1)
        have c2' : ∀ d os, (Go.Sort.grow (redrawn wr d) os).cell? ⟨w2.heap.size, 2, none⟩ = some (.int .i64 J.x1) := Go.cell_regrown (hq.out.1 2)
        have c3' : ∀ d os, (Go.Sort.grow (redrawn wr d) os).cell? ⟨w2.heap.size, 3, none⟩ = some (.int .i64 J.y1) := Go.cell_regrown (hq.out.1 3)
        have cS : ∀ d os, Calls Try.prog 33 #[.slice a1 xs.length c1] (Go.Sort.grow (redrawn wr d) os) fun e w'' => e = .returned (.agg #[.int .i64 J.x0, .int .i64 J.y0, .int .i64 J.x1, .int .i64 J.y1]) ∧ ∃ p : Regrown, w'' = Go.Sort.grow (redrawn wr p.d) p.os := fun d os =>
          Calls.regrown_of ((sJoinAll_any _ _ _ xs _ (RR.out.below (below_regrown wr d os))).mono fun _ _ ⟨he, hb⟩ => ⟨by rw [he, HJ.out], hb⟩)
        have cI : ∀ d os, Calls Try.prog 32 #[.slice a' ys.length c'] (Go.Sort.grow (redrawn wr d) os) fun e w'' => e = .returned (.agg #[.int .i64 J.x0, .int .i64 J.y0, .int .i64 J.x1, .int .i64 J.y1]) ∧ ∃ p : Regrown, w'' = Go.Sort.grow (redrawn wr p.d) p.os := fun d os =>
          Calls.regrown_of ((iJoinAll_any _ _ _ ys _ (rt.below (below_regrown wr d os))).mono fun _ _ ⟨he, hb⟩ => ⟨by rw [he, hys'.out, joinAll_reverse, HJ.out], hb⟩)
        have cH : ∀ d os, Calls Try.prog 23 #[.agg #[.int .i64 J.x0, .int .i64 J.y0, .int .i64 J.x1, .int .i64 J.y1], .agg #[.int .i64 J.x0, .int .i64 J.y0, .int .i64 J.x1, .int .i64 J.y1]] (Go.Sort.grow (redrawn wr d) os) fun e w'' => e = .returned (.bool true) ∧ ∃ p : Regrown, w'' = Go.Sort.grow (redrawn wr p.d) p.os := fun d os =>
          Calls.regrown_of ((iHolds_any _ _ _ _ _ _ _ _ _).mono fun _ _ ⟨he, hb⟩ => ⟨by rw [he, hh], hb⟩)
        have CS := Lib.hid cS
        have CI := Lib.hid cI
        have CH := Lib.hid cH
        clear cS cI cH hq
        have zt : t < 0 := by omega
        go_wp2
        refine wp_region_quiet_below (by kernel_rfl) (by kernel_rfl) ?_
        go_big_quiet_step (first | exact CS.out _ _ | exact CI.out _ _ | exact CH.out _ _)
        repeat (go_big_quiet_step (first | exact CS.out _ _ | exact CI.out _ _ | exact CH.out _ _))
        refine wpQuiet_nil ?_
        intro _ hw'
        obtain ⟨⟨dq, osq⟩, hw''⟩ := hw'
        subst hw''
        go_wp2
        go_ret
        exact ⟨rfl, HB3.out.trans ((hB.trans ((below_regrown wr dq osq).mono hszr)).mono HB3.out.size)⟩
  · go_enter Try.func4, Try.ntmps4
    go_wp2_with fail
    refine (big_yes a _ cap _ hn (by have := h.1.2.1; have := h.1.2.2.1; omega)).mono ?_
    rintro e w0 ⟨rfl, rfl⟩
    go_wp2
    go_ret
    exact ⟨rfl, Below.refl _ _⟩
end Go.Proofs.Ytdpkodemmfaglaa
