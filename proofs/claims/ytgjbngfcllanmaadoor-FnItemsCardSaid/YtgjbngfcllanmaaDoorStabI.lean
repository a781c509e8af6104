/- The library's stable sort: any merge; the whole sort. -/
import Derived.Test.YtgjbngfcllanmaaDoorStabF
import Derived.Test.YtgjbngfcllanmaaDoorStabG
import Derived.Test.YtgjbngfcllanmaaDoorStabH
namespace Go.Proofs.YtgjbngfcllanmaaDoor
open Go.RowKit

theorem symMerge_all (g n cap base f : Nat) (cf : It → It → Int) (lt : It → It → Bool) (eg : ∀ args w, (callFunc f args).run Tryd.prog w = .ok (.enter f args) w) (hc : CmpI f cf) (hlt : ∀ x y, lt x y = decide (cf x y < 0)) (hs : Strict lt) (hn : n ≤ 1099511627776) :
    ∀ (D : Nat) (a m b : Nat) (P X Y S : List It) (w : World), RowI g n cap base (P ++ X ++ Y ++ S) w → a = P.length → m = P.length + X.length → b = P.length + X.length + Y.length → 0 < X.length → 0 < Y.length → X.length + Y.length < D → Sorted lt X → Sorted lt Y →
      Calls Tryd.prog 70 #[.slice (some ⟨g, 0, none⟩) n cap, .int .i64 a, .int .i64 m, .int .i64 b, .func (.func f) #[] #[]] w fun e w' =>
        e = .returned (.tuple #[]) ∧ RowI g n cap base (P ++ sortB lt (X ++ Y) ++ S) w' ∧ Below base w w'
  | 0, _, _, _, _, _, _, _, _, _, _, _, _, _, _, hD, _, _ => by omega
  | D + 1, a, m, b, P, X, Y, S, w, h, ha, hm, hb, hX0, hY0, hD, hX, hY => by
    rcases (by omega : X.length = 1 ∨ (1 < X.length ∧ Y.length = 1) ∨ (1 < X.length ∧ 1 < Y.length)) with hx | ⟨hx, hy⟩ | ⟨hx, hy⟩
    · obtain ⟨x, rfl⟩ := List.length_eq_one_iff.1 hx
      exact mergeLeft_any g n cap base f a m b cf lt eg hc hlt hs P Y S x w h hn ha hm hb hY _ fun w' h1 h2 => ⟨rfl, h1, h2⟩
    · obtain ⟨y, rfl⟩ := List.length_eq_one_iff.1 hy
      exact mergeRight_any g n cap base f a m b cf lt eg hc hlt hs P X S y w h hn ha hm hb hx hX _ fun w' h1 h2 => ⟨rfl, h1, h2⟩
    · exact mergeMid_any g n cap base f a m b _ cf lt eg hc hlt hs (fun a m b P X Y S w h1 h2 h3 h4 h5 h6 h7 h8 h9 => symMerge_all g n cap base f cf lt eg hc hlt hs hn D a m b P X Y S w h1 h2 h3 h4 h5 h6 (by omega) h8 h9)
        P X Y S w h hn ha hm hb hx hy rfl hX hY _ fun w' h1 h2 => ⟨rfl, h1, h2⟩
theorem symMerge_any (g n cap base f : Nat) (cf : It → It → Int) (lt : It → It → Bool) (eg : ∀ args w, (callFunc f args).run Tryd.prog w = .ok (.enter f args) w) (hc : CmpI f cf) (hlt : ∀ x y, lt x y = decide (cf x y < 0)) (hs : Strict lt) (hn : n ≤ 1099511627776)
    (a m b : Nat) (P X Y S : List It) (w : World) (h : RowI g n cap base (P ++ X ++ Y ++ S) w) (ha : a = P.length) (hm : m = P.length + X.length) (hb : b = P.length + X.length + Y.length) (hX0 : 0 < X.length) (hY0 : 0 < Y.length) (hX : Sorted lt X) (hY : Sorted lt Y) :
      Calls Tryd.prog 70 #[.slice (some ⟨g, 0, none⟩) n cap, .int .i64 a, .int .i64 m, .int .i64 b, .func (.func f) #[] #[]] w fun e w' =>
        e = .returned (.tuple #[]) ∧ RowI g n cap base (P ++ sortB lt (X ++ Y) ++ S) w' ∧ Below base w w' :=
  symMerge_all g n cap base f cf lt eg hc hlt hs hn (X.length + Y.length + 1) a m b P X Y S w h ha hm hb hX0 hY0 (by omega) hX hY

/-- Sorted blocks of k items each. -/
def Blk (lt : It → It → Bool) (k : Nat) (bl : List (List It)) : Prop := ∀ X ∈ bl, X.length = k ∧ Sorted lt X
theorem Blk.snoc {lt : It → It → Bool} {k : Nat} {bl : List (List It)} (h : Blk lt k bl) {X : List It} (hx : X.length = k) (hX : Sorted lt X) : Blk lt k (bl ++ [X]) := by
  intro Z hZ
  rcases List.mem_append.1 hZ with hZ | hZ
  · exact h Z hZ
  · rw [List.mem_singleton.1 hZ]; exact ⟨hx, hX⟩

set_option maxHeartbeats 6400000 in
set_option maxRecDepth 100000 in
theorem stable_any (g n cap base f : Nat) (cf : It → It → Int) (lt : It → It → Bool) (eg : ∀ args w, (callFunc f args).run Tryd.prog w = .ok (.enter f args) w) (hc : CmpI f cf) (hlt : ∀ x y, lt x y = decide (cf x y < 0)) (hs : Strict lt) (hn : n ≤ 1099511627776)
    (xs : List It) (w : World) (h : RowI g n cap base xs w) (Q0 : Ending → World → Prop) (hQ : ∀ w', RowI g n cap base (sortB lt xs) w' → Below base w w' → Q0 (.returned (.tuple #[])) w') :
    Calls Tryd.prog 62 #[.slice (some ⟨g, 0, none⟩) n cap, .int .i64 n, .func (.func f) #[] #[]] w Q0 := by
  have H := Lib.hid h
  have HL := Lib.hid h.2
  replace hQ := Lib.hid hQ
  replace hc := Lib.hid hc
  replace hlt := Lib.hid hlt
  clear h
  go_enter Tryd.func62, Tryd.ntmps62
  go_wp2_with fail
  go_loopw [7, 8] (fun va vb wr => ∃ (a : Nat) (bl : List (List It)), va = .int .i64 a ∧ vb = .int .i64 ((a + 20 : Nat) : Int) ∧ a ≤ n ∧ Hid (Blk lt 20 bl ∧ bl.flatten.length = a ∧ sortB lt (bl.flatten ++ xs.drop a) = sortB lt xs) ∧ RowI g n cap base (bl.flatten ++ xs.drop a) wr ∧ Below base w wr) (fun va vb _ => n - (intOf va).toNat)
  case atStart => exact ⟨0, [], rfl, rfl, Nat.zero_le _, Lib.hid ⟨fun X hX => (by cases hX), rfl, rfl⟩, H.out, Below.refl _ _⟩
  case round =>
    obtain ⟨a, bl, rfl, rfl, han, HI, hr, hB⟩ := hrel
    have R := Lib.hid hr
    have BB := Lib.hid hB
    clear hr hB
    by_cases hlt2 : a + 20 ≤ n
    · as_aux_lemma =>
      have hz : ((a + 20 : Nat) : Int) ≤ (n : Int) := by omega
      have C := Lib.hid (insertion_any g n cap base f a (a + 20) cf lt eg hc.out hlt.out bl.flatten ((xs.drop a).take 20) (xs.drop (a + 20)) wr (by
        have := R.out
        rw [List.append_assoc, show xs.drop (a + 20) = (xs.drop a).drop 20 by rw [List.drop_drop], List.take_append_drop]
        exact this) hn HI.out.2.1.symm (by have := HL.out; rw [HI.out.2.1, List.length_take, List.length_drop]; omega))
      obtain ⟨b, hb⟩ : ∃ b, b = a + 20 := ⟨_, rfl⟩
      rw [← hb] at hz C ⊢
      replace hb := Lib.hid hb
      go_wp2_with fail
      refine C.out.mono ?_
      rintro e w1 ⟨rfl, hr1, hb1⟩
      have e1 : IntKind.i64.wrap ((b : Int) + 20) = ((b + 20 : Nat) : Int) := by rw [IntKind.wrap_i64]; omega
      go_wp2
      go_roundw
      case rel =>
        obtain ⟨h1, h2, h3⟩ := HI.out
        have hl : (sortB lt ((xs.drop a).take 20)).length = 20 := by have := HL.out; rw [sortB_len, List.length_take, List.length_drop]; omega
        refine ⟨b, bl ++ [sortB lt ((xs.drop a).take 20)], rfl, rfl, by omega, Lib.hid ⟨h1.snoc hl (sortB_sorted hs _), by rw [List.flatten_append, List.length_append, h2]; simp [hl]; exact hb.out.symm, ?_⟩, ?_, BB.out.trans hb1⟩
        · rw [List.flatten_append, List.flatten_cons, List.flatten_nil, List.append_nil, sortB_part hs, hb.out, List.append_assoc, show xs.drop (a + 20) = (xs.drop a).drop 20 by rw [List.drop_drop], List.take_append_drop]
          exact h3
        · rw [List.flatten_append, List.flatten_cons, List.flatten_nil, List.append_nil]
          exact hr1
      case measure => have := hb.out; simp [intOf]; omega
    · have hz : ¬ (((a + 20 : Nat) : Int) ≤ (n : Int)) := by omega
      have C := Lib.hid (insertion_any g n cap base f a n cf lt eg hc.out hlt.out bl.flatten (xs.drop a) [] wr (by rw [List.append_nil]; exact R.out) hn HI.out.2.1.symm (by have := HL.out; rw [HI.out.2.1, List.length_drop]; omega))
      go_wp2_with fail
      refine C.out.mono ?_
      rintro e w1 ⟨rfl, hr1, hb1⟩
      have B1 := Lib.hid (BB.out.trans hb1)
      have R1 : Hid (RowI g n cap base (bl.flatten ++ sortB lt (xs.drop a)) w1) := by show RowI _ _ _ _ _ _; simpa using hr1
      have HT : Hid (Blk lt 20 bl ∧ (sortB lt (xs.drop a)).length < 20 ∧ Sorted lt (sortB lt (xs.drop a)) ∧ sortB lt (bl.flatten ++ sortB lt (xs.drop a)) = sortB lt xs) := by
        obtain ⟨h1, h2, h3⟩ := HI.out
        refine ⟨h1, by have := HL.out; rw [sortB_len, List.length_drop]; omega, sortB_sorted hs _, ?_⟩
        have := sortB_part hs bl.flatten (xs.drop a) []
        rw [List.append_nil, List.append_nil] at this
        rw [this]; exact h3
      generalize sortB lt (xs.drop a) = T at R1 HT
      clear hr1 hb1 R BB HI C hz hlt2 han
      go_wp2_with fail
      go_loopw [6] (fun vk w2 => ∃ (k : Nat) (bl : List (List It)) (T : List It), vk = .int .i64 k ∧ 0 < k ∧ k ≤ 2199023255552 ∧ Hid (Blk lt k bl ∧ T.length < k ∧ Sorted lt T ∧ sortB lt (bl.flatten ++ T) = sortB lt xs) ∧ RowI g n cap base (bl.flatten ++ T) w2 ∧ Below base w w2) (fun vk _ => n - (intOf vk).toNat)
      case atStart => exact ⟨20, bl, T, rfl, by omega, by omega, HT, R1.out, B1.out⟩
      case round =>
        clear B1 R1 HT
        obtain ⟨k, bl, T, rfl, hk0, hk1, HI, hr, hB⟩ := hrel
        have R := Lib.hid hr
        have BB := Lib.hid hB
        clear hr hB
        by_cases hkn : k < n
        · have hz : (k : Int) < (n : Int) := by omega
          obtain ⟨k2, hk2⟩ : ∃ k2, k2 = 2 * k := ⟨_, rfl⟩
          have e1 : IntKind.i64.wrap (2 * (k : Int)) = (k2 : Int) := by rw [IntKind.wrap_i64]; omega
          have e2 : IntKind.i64.wrap ((k : Int) * 2) = (k2 : Int) := by rw [IntKind.wrap_i64]; omega
          have hk3 : k < k2 ∧ k2 ≤ 2199023255552 := by omega
          replace hk2 := Lib.hid hk2
          go_wp2_with fail
          go_loopw [7, 8] (fun va vb w3 => ∃ (a b : Nat) (dn rs : List (List It)), va = .int .i64 a ∧ vb = .int .i64 b ∧ Hid (b = a + k2 ∧ a ≤ n ∧ Blk lt k2 dn ∧ Blk lt k rs ∧ dn.flatten.length = a ∧ sortB lt (dn.flatten ++ rs.flatten ++ T) = sortB lt xs) ∧ RowI g n cap base (dn.flatten ++ rs.flatten ++ T) w3 ∧ Below base w w3) (fun va vb _ => n - (intOf va).toNat)
          case atStart => exact ⟨0, k2, [], bl, rfl, rfl, Lib.hid ⟨by omega, Nat.zero_le _, fun X hX => (by cases hX), HI.out.1, rfl, HI.out.2.2.2⟩, R.out, BB.out⟩
          case round =>
            have HI2 := Lib.hid (And.intro HI.out.2.1 HI.out.2.2.1)
            clear HI R BB
            obtain ⟨a, b, dn, rs, rfl, rfl, HJ, hr, hB⟩ := hrel
            have R := Lib.hid hr
            have BB := Lib.hid hB
            have hlen := Lib.hid hr.2
            clear hr hB
            obtain ⟨m, hm⟩ : ∃ m, m = a + k := ⟨_, rfl⟩
            have hab : a ≤ n ∧ b = a + k2 := ⟨HJ.out.2.1, HJ.out.1⟩
            have e3 : IntKind.i64.wrap ((a : Int) + (k : Int)) = (m : Int) := by rw [IntKind.wrap_i64]; omega
            obtain ⟨b2, hb2⟩ : ∃ b2, b2 = b + k2 := ⟨_, rfl⟩
            have e4 : IntKind.i64.wrap ((b : Int) + (k2 : Int)) = (b2 : Int) := by rw [IntKind.wrap_i64]; omega
            replace hm := Lib.hid hm
            replace hb2 := Lib.hid hb2
            replace hab := Lib.hid hab
            by_cases hbn : b ≤ n
            · as_aux_lemma =>
              have hz : (b : Int) ≤ (n : Int) := by omega
              obtain ⟨h1, h2, h3, h4, h5, h6⟩ := HJ.out
              have hl := hlen.out
              have h7 := HI2.out.1
              have h8 := hk2.out
              have h9 := hm.out
              match rs, h4, h6, hl, R, HJ, hlen with
              | [], h4, h6, hl, R, HJ, hlen => simp only [List.length_append, List.flatten_nil, List.append_nil] at hl; omega
              | [X], h4, h6, hl, R, HJ, hlen => have := (h4 X (by simp)).1; simp only [List.length_append, List.flatten_cons, List.flatten_nil, List.append_nil] at hl; omega
              | X :: Y :: rs, h4, h6, hl, R, HJ, hlen =>
                have hX := h4 X (by simp)
                have hY := h4 Y (by simp)
                have hrs : Blk lt k rs := fun Z hZ => h4 Z (by simp [hZ])
                have C := Lib.hid (symMerge_any g n cap base f cf lt eg hc.out hlt.out hs hn a m b dn.flatten X Y (rs.flatten ++ T) wr (by have := R.out; simpa using this) h5.symm (by omega) (by omega) (by omega) (by omega) hX.2 hY.2)
                have HM : Hid (Blk lt k2 (dn ++ [sortB lt (X ++ Y)]) ∧ Blk lt k rs ∧ (dn ++ [sortB lt (X ++ Y)]).flatten.length = b ∧ sortB lt ((dn ++ [sortB lt (X ++ Y)]).flatten ++ rs.flatten ++ T) = sortB lt xs) := by
                  have e : (sortB lt (X ++ Y)).length = k2 := by rw [sortB_len, List.length_append]; omega
                  refine ⟨h3.snoc e (sortB_sorted hs _), hrs, by rw [List.flatten_append, List.length_append, h5]; simp [e]; omega, ?_⟩
                  rw [List.flatten_append, List.flatten_cons, List.flatten_nil, List.append_nil, List.append_assoc (dn.flatten ++ _), sortB_part hs]
                  rw [← h6]; simp
                have hk4 := Lib.hid (And.intro h1 (And.intro h8 hk0))
                clear h1 h2 h3 h4 h5 h6 hl h7 h8 h9 hX hY hrs
                go_wp2_with fail
                refine C.out.mono ?_
                rintro e w4 ⟨rfl, hr1, hb1⟩
                go_wp2
                go_roundw
                case rel =>
                  obtain ⟨g1, g2, g3, g4⟩ := HM.out
                  have := hb2.out
                  refine ⟨b, b2, dn ++ [sortB lt (X ++ Y)], rs, rfl, rfl, Lib.hid ⟨this, hbn, g1, g2, g3, g4⟩, ?_, BB.out.trans hb1⟩
                  rw [List.flatten_append, List.flatten_cons, List.flatten_nil, List.append_nil]
                  simpa using hr1
                case measure => have := hk4.out; simp [intOf]; omega
            · have hz : ¬ ((b : Int) ≤ (n : Int)) := by omega
              by_cases hmn : m < n
              · have hz2 : (m : Int) < (n : Int) := by omega
                obtain ⟨h1, h2, h3, h4, h5, h6⟩ := HJ.out
                have hl := hlen.out
                have h7 := HI2.out
                have h8 := hk2.out
                have h9 := hm.out
                as_aux_lemma =>
                match rs, h4, h6, hl, R, HJ, hlen with
                | [], h4, h6, hl, R, HJ, hlen => simp only [List.length_append, List.flatten_nil, List.append_nil] at hl; omega
                | [X], h4, h6, hl, R, HJ, hlen =>
                  have hX := h4 X (by simp)
                  simp only [List.length_append, List.flatten_cons, List.flatten_nil, List.append_nil] at hl
                  have C := Lib.hid (symMerge_any g n cap base f cf lt eg hc.out hlt.out hs hn a m n dn.flatten X T [] wr (by have := R.out; simpa using this) h5.symm (by omega) (by omega) (by omega) (by omega) hX.2 h7.2)
                  have HM : Hid (Blk lt k2 dn ∧ (sortB lt (X ++ T)).length < k2 ∧ Sorted lt (sortB lt (X ++ T)) ∧ sortB lt (dn.flatten ++ sortB lt (X ++ T)) = sortB lt xs) := by
                    refine ⟨h3, by rw [sortB_len, List.length_append]; omega, sortB_sorted hs _, ?_⟩
                    have e := sortB_part hs dn.flatten (X ++ T) []
                    rw [List.append_nil, List.append_nil] at e
                    rw [e, ← h6]; simp
                  have hk4 := Lib.hid (And.intro h8 hk0)
                  clear h1 h2 h3 h4 h5 h6 hl h7 h8 h9 hX
                  go_wp2_with fail
                  refine C.out.mono ?_
                  rintro e w4 ⟨rfl, hr1, hb1⟩
                  go_wp2
                  go_roundw
                  case rel => exact ⟨k2, dn, sortB lt (X ++ T), rfl, by omega, hk3.2, HM, by simpa using hr1, BB.out.trans hb1⟩
                  case measure => have := hk4.out; simp [intOf]; omega
                | X :: Y :: rs, h4, h6, hl, R, HJ, hlen =>
                  have hX := (h4 X (by simp)).1
                  have hY := (h4 Y (by simp)).1
                  simp only [List.length_append, List.flatten_cons] at hl
                  omega
              · have hz2 : ¬ ((m : Int) < (n : Int)) := by omega
                obtain ⟨h1, h2, h3, h4, h5, h6⟩ := HJ.out
                have hl := hlen.out
                have h7 := HI2.out
                have h8 := hk2.out
                have h9 := hm.out
                have HM : Hid (∃ U, dn.flatten ++ rs.flatten ++ T = dn.flatten ++ U ∧ U.length < k2 ∧ Sorted lt U) := by
                  match rs, h4, hl with
                  | [], h4, hl => exact ⟨T, by simp, by omega, h7.2⟩
                  | [X], h4, hl =>
                    have hX := h4 X (by simp)
                    simp only [List.length_append, List.flatten_cons, List.flatten_nil, List.append_nil] at hl
                    have : T = [] := List.length_eq_zero_iff.1 (by omega)
                    subst this
                    exact ⟨X, by simp, by omega, hX.2⟩
                  | X :: Y :: rs, h4, hl =>
                    have hX := (h4 X (by simp)).1
                    have hY := (h4 Y (by simp)).1
                    simp only [List.length_append, List.flatten_cons] at hl
                    omega
                obtain ⟨U, hU1, hU2, hU3⟩ := HM.out
                have HM2 := Lib.hid (show Blk lt k2 dn ∧ U.length < k2 ∧ Sorted lt U ∧ sortB lt (dn.flatten ++ U) = sortB lt xs from ⟨h3, hU2, hU3, by rw [← hU1]; exact h6⟩)
                have hk4 := Lib.hid (And.intro h8 hk0)
                have R4 := Lib.hid (show RowI g n cap base (dn.flatten ++ U) wr by rw [← hU1]; exact R.out)
                clear h1 h2 h3 h4 h5 h6 hl h7 h8 h9 hU1 hU2 hU3 HM
                go_wp2
                go_roundw
                case rel => exact ⟨k2, dn, U, rfl, by omega, hk3.2, HM2, R4.out, BB.out⟩
                case measure => have := hk4.out; simp [intOf]; omega
        · have hz : ¬ ((k : Int) < (n : Int)) := by omega
          have HE : Hid (bl.flatten ++ T = sortB lt xs) := by
            obtain ⟨h1, h2, h3, h4⟩ := HI.out
            have hl := R.out.2
            show _ = _
            rw [← h4]
            match bl, h1, hl with
            | [], h1, hl => exact (sortB_again _ h3).symm
            | [X], h1, hl =>
              have hX := h1 X (by simp)
              simp only [List.length_append, List.flatten_cons, List.flatten_nil, List.append_nil] at hl ⊢
              have : T = [] := List.length_eq_zero_iff.1 (by omega)
              subst this
              rw [List.append_nil]
              exact (sortB_again _ hX.2).symm
            | X :: Y :: rs, h1, hl =>
              have hX := (h1 X (by simp)).1
              have hY := (h1 Y (by simp)).1
              simp only [List.length_append, List.flatten_cons] at hl
              omega
          go_wp2
          go_end0
          refine hQ.out _ ?_ BB.out
          rw [← HE.out]
          exact R.out
end Go.Proofs.YtgjbngfcllanmaaDoor
