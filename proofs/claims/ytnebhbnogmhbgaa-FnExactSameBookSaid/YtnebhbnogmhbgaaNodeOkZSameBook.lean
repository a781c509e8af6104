/- The model's NodeOk: at most four entries, each valid, no number twice. -/
import Derived.Test.YtnebhbnogmhbgaaEntryAtZSameBook
import Derived.Test.YtnebhbnogmhbgaaNodeZSameBook
namespace Go.Proofs.Ytnebhbnogmhbgaa
open Go.RowKit

def entOk (b : Bool) (xs : List It) (x : It) (k : Int) : Bool := okB x.x0 x.y0 x.x1 x.y1 && (atV x.id xs 0 == k) && (if b then inB x.id 1 999 else inB x.id 0 47)
def nodeAll (b : Bool) (xs : List It) : List It → Int → Bool
  | [], _ => true
  | x :: l, k => entOk b xs x k && nodeAll b xs l (k + 1)
theorem nodeAll_no {b : Bool} {xs : List It} {k : Nat} {x : It} (hx : xs[k]? = some x) (h : entOk b xs x k = false) : nodeAll b xs (xs.drop k) k = false := by rw [drop_at hx, nodeAll, h]; rfl
theorem nodeAll_yes {b : Bool} {xs : List It} {k : Nat} {x : It} (hx : xs[k]? = some x) (h : entOk b xs x k = true) : nodeAll b xs (xs.drop k) k = nodeAll b xs (xs.drop (k + 1)) ((k + 1 : Nat) : Int) := by rw [drop_at hx, nodeAll, h]; simp
theorem nodeAll_end (b : Bool) (xs : List It) (n : Nat) (h : xs.length ≤ n) : nodeAll b xs (xs.drop n) n = true := by rw [List.drop_eq_nil_of_le h]; rfl
def nodeOkV (b : Bool) (xs : List It) : Bool := nodeAll b xs xs 0 && (decide (xs.length ≤ 4) && (b || decide (0 < xs.length)))
theorem nodeOkV_no {b : Bool} {xs : List It} (h : nodeAll b xs xs 0 = false) : nodeOkV b xs = false := by unfold nodeOkV; rw [h]; rfl
theorem keepc {W W' : World} {q : Nat} {f : Nat → Option Value} (hb : Below W.heap.size W W') (hq : q < W.heap.size) (h : ∀ o, W.cell? ⟨q, o, none⟩ = f o) : ∀ o, W'.cell? ⟨q, o, none⟩ = f o := fun o => (hb.cell (p := ⟨q, o, none⟩) hq).trans (h o)

set_option maxRecDepth 100000 in
set_option maxHeartbeats 3200000 in
theorem sNodeOk_any (b : Bool) (a : Option Addr) (n cap : Nat) (xs : List It) (w : World) (h : RdS itLay w a n cap xs) :
    Calls Try.prog 77 #[.agg #[.bool b, .slice a n cap]] w fun e w' => e = .returned (.bool (nodeOkV b xs)) ∧ Below w.heap.size w w' := by
  have hm := h.1.2.2.1
  have hnc := h.1.2.1
  unfold maxLen at hm
  have HR := Lib.hid h
  have HL := Lib.hid h.1.1
  clear h
  have B0 : Below w.heap.size w (w.alloc (.cells #[.bool b, .slice a n cap] 32)) := new_below w _
  have K0 := (blk_new w #[.bool b, .slice a n cap] 32).1
  go_enter Try.func77, Try.ntmps77
  go_wp2
  go_loopw [3] (fun i wr => ∃ k : Nat, k ≤ n ∧ i = .int .i64 (k : Int) ∧ nodeAll b xs xs 0 = nodeAll b xs (xs.drop k) k ∧ (∀ o, wr.cell? ⟨w.heap.size, o, none⟩ = #[Value.bool b, .slice a n cap][o]?) ∧ Below w.heap.size w wr ∧ w.heap.size < wr.heap.size) (fun i _ => n - (intOf i).toNat)
  case atStart => exact ⟨0, Nat.zero_le _, rfl, rfl, K0, B0, by simp⟩
  case round =>
    obtain ⟨k, hk, rfl, hA, kn, BB, hS⟩ := hrel
    have HA := Lib.hid hA
    clear hA K0 B0
    by_cases hlt : k < n
    · obtain ⟨bb, off, x, e2, hbl, hx, d0, d1, d2, d3, d4⟩ := rdIt_at (HR.out.below BB) hlt
      subst e2
      have HX := Lib.hid hx
      have z0 : (0 : Int) ≤ k := by omega
      have z1 : (k : Int) < n := by omega
      clear hx
      have ke := (blk_new wr #[Value.int .i64 x.id, .int .i64 x.x0, .int .i64 x.y0, .int .i64 x.x1, .int .i64 x.y1] 91).1
      have kn2 : ∀ o, (wr.alloc (.cells #[Value.int .i64 x.id, .int .i64 x.x0, .int .i64 x.y0, .int .i64 x.x1, .int .i64 x.y1] 91)).cell? ⟨w.heap.size, o, none⟩ = #[Value.bool b, .slice (some ⟨bb, off, none⟩) n cap][o]? := fun o => (World.cell?_alloc_lt wr _ ⟨w.heap.size, o, none⟩ hS).trans (kn o)
      go_upto_region 5 with (fail)
      replace BB := BB.alloc (by omega) (.cells #[Value.int .i64 x.id, .int .i64 x.x0, .int .i64 x.y0, .int .i64 x.x1, .int .i64 x.y1] 91)
      clear kn
      have kn := kn2
      clear kn2
      have C1 := sBoxOk_any x.x0 x.y0 x.x1 x.y1
      cases h1 : okB x.x0 x.y0 x.x1 x.y1 with
      | false =>
        rw [h1] at C1
        replace C1 := Lib.hid C1
        have hr : Hid (nodeAll b xs xs 0 = false) := HA.out.trans (nodeAll_no HX.out (by unfold entOk; rw [h1]; rfl))
        clear h1
        go_wp2_with fail
        refine (C1.out _).mono ?_
        rintro e w1 ⟨rfl, hj⟩
        have ke1 := keepc hj (show wr.heap.size < _ by first | omega | (simp; done) | (simp; omega)) ke
        have kn1 := keepc hj (show w.heap.size < _ by first | omega | (simp; done) | (simp; omega)) kn
        replace BB := BB.trans (hj.mono BB.size)
        have sz := hj.size
        try simp at sz
        clear hj ke kn
        have ke := ke1
        have kn := kn1
        clear ke1 kn1
        go_wp2
        go_ret
        exact ⟨ret_bool (nodeOkV_no hr.out).symm, BB⟩
      | true =>
        rw [h1] at C1
        replace C1 := Lib.hid C1
        by_cases h : atV x.id xs 0 = k
        · have C2 : ∀ V, RdS itLay V (some ⟨bb, off, none⟩) n cap xs → _ := fun V hV => sEntryAt_any (some ⟨bb, off, none⟩) n cap xs x.id V hV
          rw [h] at C2
          replace C2 := Lib.hid C2
          cases b with
          | true =>
            have C3 := l1In_any x.id 1 999
            cases h3 : inB x.id 1 999 with
            | false =>
              have hr := Lib.hid (HA.out.trans (nodeAll_no HX.out (by unfold entOk; rw [h1, h, h3]; simp)))
              rw [h3] at C3
              replace C3 := Lib.hid C3
              clear h h1 h3
              go_wp2_with fail
              refine (C1.out _).mono ?_
              rintro e w1 ⟨rfl, hj⟩
              have ke1 := keepc hj (show wr.heap.size < _ by first | omega | (simp; done) | (simp; omega)) ke
              have kn1 := keepc hj (show w.heap.size < _ by first | omega | (simp; done) | (simp; omega)) kn
              replace BB := BB.trans (hj.mono BB.size)
              have sz := hj.size
              try simp at sz
              clear hj ke kn
              have ke := ke1
              have kn := kn1
              clear ke1 kn1
              go_wp2_with fail
              refine (C2.out _ (HR.out.below BB)).mono ?_
              rintro e w2 ⟨rfl, hj⟩
              have ke2 := keepc hj (show wr.heap.size < _ by first | omega | (simp; done) | (simp; omega)) ke
              have kn2 := keepc hj (show w.heap.size < _ by first | omega | (simp; done) | (simp; omega)) kn
              replace BB := BB.trans (hj.mono BB.size)
              have sz := hj.size
              try simp at sz
              clear hj ke kn
              have ke := ke2
              have kn := kn2
              clear ke2 kn2
              go_wp2_with fail
              refine (C3.out _).mono ?_
              rintro e w3 ⟨rfl, rfl⟩
              go_wp2
              go_ret
              exact ⟨ret_bool (nodeOkV_no hr.out).symm, BB⟩
            | true =>
              have hr := Lib.hid (HA.out.trans (nodeAll_yes HX.out (by unfold entOk; rw [h1, h, h3]; simp)))
              rw [h3] at C3
              replace C3 := Lib.hid C3
              clear h h1 h3
              go_wp2_with fail
              refine (C1.out _).mono ?_
              rintro e w1 ⟨rfl, hj⟩
              have ke1 := keepc hj (show wr.heap.size < _ by first | omega | (simp; done) | (simp; omega)) ke
              have kn1 := keepc hj (show w.heap.size < _ by first | omega | (simp; done) | (simp; omega)) kn
              replace BB := BB.trans (hj.mono BB.size)
              have sz := hj.size
              try simp at sz
              clear hj ke kn
              have ke := ke1
              have kn := kn1
              clear ke1 kn1
              go_wp2_with fail
              refine (C2.out _ (HR.out.below BB)).mono ?_
              rintro e w2 ⟨rfl, hj⟩
              have ke2 := keepc hj (show wr.heap.size < _ by first | omega | (simp; done) | (simp; omega)) ke
              have kn2 := keepc hj (show w.heap.size < _ by first | omega | (simp; done) | (simp; omega)) kn
              replace BB := BB.trans (hj.mono BB.size)
              have sz := hj.size
              try simp at sz
              clear hj ke kn
              have ke := ke2
              have kn := kn2
              clear ke2 kn2
              go_wp2_with fail
              refine (C3.out _).mono ?_
              rintro e w3 ⟨rfl, rfl⟩
              have kn' := kn
              go_wp2
              go_roundw
              case rel => exact ⟨k + 1, by omega, by go_num, hr.out, kn', BB, by omega⟩
              case measure => simp [intOf]; omega
          | false =>
            have C3 := l1In_any x.id 0 47
            cases h3 : inB x.id 0 47 with
            | false =>
              have hr := Lib.hid (HA.out.trans (nodeAll_no HX.out (by unfold entOk; rw [h1, h, h3]; simp)))
              rw [h3] at C3
              replace C3 := Lib.hid C3
              clear h h1 h3
              go_wp2_with fail
              refine (C1.out _).mono ?_
              rintro e w1 ⟨rfl, hj⟩
              have ke1 := keepc hj (show wr.heap.size < _ by first | omega | (simp; done) | (simp; omega)) ke
              have kn1 := keepc hj (show w.heap.size < _ by first | omega | (simp; done) | (simp; omega)) kn
              replace BB := BB.trans (hj.mono BB.size)
              have sz := hj.size
              try simp at sz
              clear hj ke kn
              have ke := ke1
              have kn := kn1
              clear ke1 kn1
              go_wp2_with fail
              refine (C2.out _ (HR.out.below BB)).mono ?_
              rintro e w2 ⟨rfl, hj⟩
              have ke2 := keepc hj (show wr.heap.size < _ by first | omega | (simp; done) | (simp; omega)) ke
              have kn2 := keepc hj (show w.heap.size < _ by first | omega | (simp; done) | (simp; omega)) kn
              replace BB := BB.trans (hj.mono BB.size)
              have sz := hj.size
              try simp at sz
              clear hj ke kn
              have ke := ke2
              have kn := kn2
              clear ke2 kn2
              go_wp2_with fail
              refine (C3.out _).mono ?_
              rintro e w3 ⟨rfl, rfl⟩
              go_wp2
              go_ret
              exact ⟨ret_bool (nodeOkV_no hr.out).symm, BB⟩
            | true =>
              have hr := Lib.hid (HA.out.trans (nodeAll_yes HX.out (by unfold entOk; rw [h1, h, h3]; simp)))
              rw [h3] at C3
              replace C3 := Lib.hid C3
              clear h h1 h3
              go_wp2_with fail
              refine (C1.out _).mono ?_
              rintro e w1 ⟨rfl, hj⟩
              have ke1 := keepc hj (show wr.heap.size < _ by first | omega | (simp; done) | (simp; omega)) ke
              have kn1 := keepc hj (show w.heap.size < _ by first | omega | (simp; done) | (simp; omega)) kn
              replace BB := BB.trans (hj.mono BB.size)
              have sz := hj.size
              try simp at sz
              clear hj ke kn
              have ke := ke1
              have kn := kn1
              clear ke1 kn1
              go_wp2_with fail
              refine (C2.out _ (HR.out.below BB)).mono ?_
              rintro e w2 ⟨rfl, hj⟩
              have ke2 := keepc hj (show wr.heap.size < _ by first | omega | (simp; done) | (simp; omega)) ke
              have kn2 := keepc hj (show w.heap.size < _ by first | omega | (simp; done) | (simp; omega)) kn
              replace BB := BB.trans (hj.mono BB.size)
              have sz := hj.size
              try simp at sz
              clear hj ke kn
              have ke := ke2
              have kn := kn2
              clear ke2 kn2
              go_wp2_with fail
              refine (C3.out _).mono ?_
              rintro e w3 ⟨rfl, rfl⟩
              have kn' := kn
              go_wp2
              go_roundw
              case rel => exact ⟨k + 1, by omega, by go_num, hr.out, kn', BB, by omega⟩
              case measure => simp [intOf]; omega
        · have C2 : ∀ V, RdS itLay V (some ⟨bb, off, none⟩) n cap xs → _ := fun V hV => sEntryAt_any (some ⟨bb, off, none⟩) n cap xs x.id V hV
          replace C2 := Lib.hid C2
          have hne : ((atV x.id xs 0) != (k : Int)) = true := by rw [bne_iff_ne]; exact h
          have hr := Lib.hid (HA.out.trans (nodeAll_no HX.out (by unfold entOk; rw [beq_eq_false_iff_ne.2 h]; simp)))
          clear h h1
          go_wp2_with fail
          refine (C1.out _).mono ?_
          rintro e w1 ⟨rfl, hj⟩
          have ke1 := keepc hj (show wr.heap.size < _ by first | omega | (simp; done) | (simp; omega)) ke
          have kn1 := keepc hj (show w.heap.size < _ by first | omega | (simp; done) | (simp; omega)) kn
          replace BB := BB.trans (hj.mono BB.size)
          have sz := hj.size
          try simp at sz
          clear hj ke kn
          have ke := ke1
          have kn := kn1
          clear ke1 kn1
          go_wp2_with fail
          refine (C2.out _ (HR.out.below BB)).mono ?_
          rintro e w2 ⟨rfl, hj⟩
          have ke2 := keepc hj (show wr.heap.size < _ by first | omega | (simp; done) | (simp; omega)) ke
          have kn2 := keepc hj (show w.heap.size < _ by first | omega | (simp; done) | (simp; omega)) kn
          replace BB := BB.trans (hj.mono BB.size)
          have sz := hj.size
          try simp at sz
          clear hj ke kn
          have ke := ke2
          have kn := kn2
          clear ke2 kn2
          go_wp2
          go_ret
          exact ⟨ret_bool (nodeOkV_no hr.out).symm, BB⟩
    · obtain rfl : k = n := by omega
      have hF : nodeAll b xs xs 0 = true := HA.out.trans (nodeAll_end b xs k (by rw [HL.out]; exact Nat.le_refl _))
      have hV : nodeOkV b xs = (decide (k ≤ 4) && (b || decide (0 < k))) := by unfold nodeOkV; rw [hF, HL.out]; rfl
      have HV := Lib.hid hV
      clear hF hV
      by_cases h4 : (k : Int) ≤ 4
      · cases b with
        | true =>
          have hr : Hid (nodeOkV true xs = true) := by show _ = _; rw [HV.out]; simp; omega
          go_wp2
          go_ret
          exact ⟨ret_bool hr.out.symm, BB⟩
        | false =>
          by_cases h0 : 0 < k
          · have hr : Hid (nodeOkV false xs = true) := by show _ = _; rw [HV.out]; simp; omega
            go_wp2
            go_ret
            exact ⟨ret_bool hr.out.symm, BB⟩
          · have hr : Hid (nodeOkV false xs = false) := by show _ = _; rw [HV.out]; simp; omega
            go_wp2
            go_ret
            exact ⟨ret_bool hr.out.symm, BB⟩
      · have hr : Hid (nodeOkV b xs = false) := by show _ = _; rw [HV.out]; simp; omega
        go_wp2
        go_ret
        exact ⟨ret_bool hr.out.symm, BB⟩
end Go.Proofs.Ytnebhbnogmhbgaa
