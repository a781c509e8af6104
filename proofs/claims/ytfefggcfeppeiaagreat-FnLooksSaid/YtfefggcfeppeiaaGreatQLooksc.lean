/- Texts of this seat laid together: NodeOk, BookO, SameItems, SameNode, BookF, BookY, Append, LookA, ItemsOf, JoinAll, BoxS, BoundOf, LookB, Choose, Seeds. -/
import Derived.Test.YtfefggcfeppeiaaGreatQLooksb
import Derived.BigQuiet
import Derived.Deep.RegionWith

/- The model's NodeOk: at most four entries, each valid, no number twice. -/
namespace Go.Proofs.YtfefggcfeppeiaaGreat
open Go.RowKit

def entOk (b : Bool) (xs : List It) (x : It) (k : Int) : Bool := okB x.x0 x.y0 x.x1 x.y1 && (atV x.id xs 0 == k) && (if b then inB x.id 1 999 else inB x.id 0 47)
def nodeAll (b : Bool) (xs : List It) : List It → Int → Bool
  | [], _ => true
  | x :: l, k => entOk b xs x k && nodeAll b xs l (k + 1)
theorem nodeAll_no {b : Bool} {xs : List It} {k : Nat} {x : It} (hx : xs[k]? = some x) (h : entOk b xs x k = false) : nodeAll b xs (xs.drop k) k = false := by rw [drop_at hx, nodeAll, h]; rfl
theorem nodeAll_yes {b : Bool} {xs : List It} {k : Nat} {x : It} (hx : xs[k]? = some x) (h : entOk b xs x k = true) : nodeAll b xs (xs.drop k) k = nodeAll b xs (xs.drop (k + 1)) ((k + 1 : Nat) : Int) := by rw [drop_at hx, nodeAll, h]; simp
theorem nodeAll_end (b : Bool) (xs : List It) (n : Nat) (h : xs.length ≤ n) : nodeAll b xs (xs.drop n) n = true := by rw [List.drop_eq_nil_of_le h]; rfl
def nodeOkV (b : Bool) (xs : List It) : Bool := nodeAll b xs xs 0 && (decide (xs.length ≤ 4) && (b || decide (0 < xs.length)))
theorem nodeOkV_no {b : Bool} {xs : List It} (h : nodeAll b xs xs 0 = false) : nodeOkV b xs = false := by unfold nodeOkV; rw [h]; rfl
theorem keepc {W W' : World} {q : Nat} {f : Nat → Option Value} (hb : Below W.heap.size W W') (hq : q < W.heap.size) (h : ∀ o, W.cell? ⟨q, o, none⟩ = f o) : ∀ o, W'.cell? ⟨q, o, none⟩ = f o := fun o => (hb.cell (p := ⟨q, o, none⟩) hq).trans (h o)

set_option maxRecDepth 100000 in
set_option maxHeartbeats 3200000 in
theorem sNodeOk_any (b : Bool) (a : Option Addr) (n cap : Nat) (xs : List It) (w : World) (h : RdS itLay w a n cap xs) :
    Calls Tryz.prog 63 #[.agg #[.bool b, .slice a n cap]] w fun e w' => e = .returned (.bool (nodeOkV b xs)) ∧ Below w.heap.size w w' := by
  have hm := h.1.2.2.1
  have hnc := h.1.2.1
  unfold maxLen at hm
  have HR := Lib.hid h
  have HL := Lib.hid h.1.1
  clear h
  have B0 : Below w.heap.size w (w.alloc (.cells #[.bool b, .slice a n cap] 59)) := new_below w _
  have K0 := (blk_new w #[.bool b, .slice a n cap] 59).1
  go_enter Tryz.func63, Tryz.ntmps63
  go_wp2
  go_loopw [3] (fun i wr => ∃ k : Nat, k ≤ n ∧ i = .int .i64 (k : Int) ∧ nodeAll b xs xs 0 = nodeAll b xs (xs.drop k) k ∧ (∀ o, wr.cell? ⟨w.heap.size, o, none⟩ = #[Value.bool b, .slice a n cap][o]?) ∧ Below w.heap.size w wr ∧ w.heap.size < wr.heap.size) (fun i _ => n - (intOf i).toNat)
  case atStart => exact ⟨0, Nat.zero_le _, rfl, rfl, K0, B0, by simp⟩
  case round =>
    obtain ⟨k, hk, rfl, hA, kn, BB, hS⟩ := hrel
    have HA := Lib.hid hA
    clear hA K0 B0
    by_cases hlt : k < n
    · obtain ⟨bb, off, x, e2, hbl, hx, d0, d1, d2, d3, d4⟩ := rdIt_at (HR.out.below BB) hlt
      subst e2
      have HX := Lib.hid hx
      have z0 : (0 : Int) ≤ k := by omega
      have z1 : (k : Int) < n := by omega
      clear hx
      have ke := (blk_new wr #[Value.int .i64 x.id, .int .i64 x.x0, .int .i64 x.y0, .int .i64 x.x1, .int .i64 x.y1] 77).1
      have kn2 : ∀ o, (wr.alloc (.cells #[Value.int .i64 x.id, .int .i64 x.x0, .int .i64 x.y0, .int .i64 x.x1, .int .i64 x.y1] 77)).cell? ⟨w.heap.size, o, none⟩ = #[Value.bool b, .slice (some ⟨bb, off, none⟩) n cap][o]? := fun o => (World.cell?_alloc_lt wr _ ⟨w.heap.size, o, none⟩ hS).trans (kn o)
      go_upto_region 5 with (fail)
      replace BB := BB.alloc (by omega) (.cells #[Value.int .i64 x.id, .int .i64 x.x0, .int .i64 x.y0, .int .i64 x.x1, .int .i64 x.y1] 77)
      clear kn
      have kn := kn2
      clear kn2
      have C1 := sBoxOk_any x.x0 x.y0 x.x1 x.y1
      cases h1 : okB x.x0 x.y0 x.x1 x.y1 with
      | false =>
        rw [h1] at C1
        replace C1 := Lib.hid C1
        have hr : Hid (nodeAll b xs xs 0 = false) := HA.out.trans (nodeAll_no HX.out (by unfold entOk; rw [h1]; rfl))
        clear h1
        go_wp2_with fail
        refine (C1.out _).mono ?_
        rintro e w1 ⟨rfl, hj⟩
        have ke1 := keepc hj (show wr.heap.size < _ by first | omega | (simp; done) | (simp; omega)) ke
        have kn1 := keepc hj (show w.heap.size < _ by first | omega | (simp; done) | (simp; omega)) kn
        replace BB := BB.trans (hj.mono BB.size)
        have sz := hj.size
        try simp at sz
        clear hj ke kn
        have ke := ke1
        have kn := kn1
        clear ke1 kn1
        go_wp2
        go_ret
        exact ⟨ret_bool (nodeOkV_no hr.out).symm, BB⟩
      | true =>
        rw [h1] at C1
        replace C1 := Lib.hid C1
        by_cases h : atV x.id xs 0 = k
        · have C2 : ∀ V, RdS itLay V (some ⟨bb, off, none⟩) n cap xs → _ := fun V hV => sEntryAt_any (some ⟨bb, off, none⟩) n cap xs x.id V hV
          rw [h] at C2
          replace C2 := Lib.hid C2
          cases b with
          | true =>
            have C3 := l1In_any x.id 1 999
            cases h3 : inB x.id 1 999 with
            | false =>
              have hr := Lib.hid (HA.out.trans (nodeAll_no HX.out (by unfold entOk; rw [h1, h, h3]; simp)))
              rw [h3] at C3
              replace C3 := Lib.hid C3
              clear h h1 h3
              go_wp2_with fail
              refine (C1.out _).mono ?_
              rintro e w1 ⟨rfl, hj⟩
              have ke1 := keepc hj (show wr.heap.size < _ by first | omega | (simp; done) | (simp; omega)) ke
              have kn1 := keepc hj (show w.heap.size < _ by first | omega | (simp; done) | (simp; omega)) kn
              replace BB := BB.trans (hj.mono BB.size)
              have sz := hj.size
              try simp at sz
              clear hj ke kn
              have ke := ke1
              have kn := kn1
              clear ke1 kn1
              go_wp2_with fail
              refine (C2.out _ (HR.out.below BB)).mono ?_
              rintro e w2 ⟨rfl, hj⟩
              have ke2 := keepc hj (show wr.heap.size < _ by first | omega | (simp; done) | (simp; omega)) ke
              have kn2 := keepc hj (show w.heap.size < _ by first | omega | (simp; done) | (simp; omega)) kn
              replace BB := BB.trans (hj.mono BB.size)
              have sz := hj.size
              try simp at sz
              clear hj ke kn
              have ke := ke2
              have kn := kn2
              clear ke2 kn2
              go_wp2_with fail
              refine (C3.out _).mono ?_
              rintro e w3 ⟨rfl, rfl⟩
              go_wp2
              go_ret
              exact ⟨ret_bool (nodeOkV_no hr.out).symm, BB⟩
            | true =>
              have hr := Lib.hid (HA.out.trans (nodeAll_yes HX.out (by unfold entOk; rw [h1, h, h3]; simp)))
              rw [h3] at C3
              replace C3 := Lib.hid C3
              clear h h1 h3
              go_wp2_with fail
              refine (C1.out _).mono ?_
              rintro e w1 ⟨rfl, hj⟩
              have ke1 := keepc hj (show wr.heap.size < _ by first | omega | (simp; done) | (simp; omega)) ke
              have kn1 := keepc hj (show w.heap.size < _ by first | omega | (simp; done) | (simp; omega)) kn
              replace BB := BB.trans (hj.mono BB.size)
              have sz := hj.size
              try simp at sz
              clear hj ke kn
              have ke := ke1
              have kn := kn1
              clear ke1 kn1
              go_wp2_with fail
              refine (C2.out _ (HR.out.below BB)).mono ?_
              rintro e w2 ⟨rfl, hj⟩
              have ke2 := keepc hj (show wr.heap.size < _ by first | omega | (simp; done) | (simp; omega)) ke
              have kn2 := keepc hj (show w.heap.size < _ by first | omega | (simp; done) | (simp; omega)) kn
              replace BB := BB.trans (hj.mono BB.size)
              have sz := hj.size
              try simp at sz
              clear hj ke kn
              have ke := ke2
              have kn := kn2
              clear ke2 kn2
              go_wp2_with fail
              refine (C3.out _).mono ?_
              rintro e w3 ⟨rfl, rfl⟩
              have kn' := kn
              go_wp2
              go_roundw
              case rel => exact ⟨k + 1, by omega, by go_num, hr.out, kn', BB, by omega⟩
              case measure => simp [intOf]; omega
          | false =>
            have C3 := l1In_any x.id 0 47
            cases h3 : inB x.id 0 47 with
            | false =>
              have hr := Lib.hid (HA.out.trans (nodeAll_no HX.out (by unfold entOk; rw [h1, h, h3]; simp)))
              rw [h3] at C3
              replace C3 := Lib.hid C3
              clear h h1 h3
              go_wp2_with fail
              refine (C1.out _).mono ?_
              rintro e w1 ⟨rfl, hj⟩
              have ke1 := keepc hj (show wr.heap.size < _ by first | omega | (simp; done) | (simp; omega)) ke
              have kn1 := keepc hj (show w.heap.size < _ by first | omega | (simp; done) | (simp; omega)) kn
              replace BB := BB.trans (hj.mono BB.size)
              have sz := hj.size
              try simp at sz
              clear hj ke kn
              have ke := ke1
              have kn := kn1
              clear ke1 kn1
              go_wp2_with fail
              refine (C2.out _ (HR.out.below BB)).mono ?_
              rintro e w2 ⟨rfl, hj⟩
              have ke2 := keepc hj (show wr.heap.size < _ by first | omega | (simp; done) | (simp; omega)) ke
              have kn2 := keepc hj (show w.heap.size < _ by first | omega | (simp; done) | (simp; omega)) kn
              replace BB := BB.trans (hj.mono BB.size)
              have sz := hj.size
              try simp at sz
              clear hj ke kn
              have ke := ke2
              have kn := kn2
              clear ke2 kn2
              go_wp2_with fail
              refine (C3.out _).mono ?_
              rintro e w3 ⟨rfl, rfl⟩
              go_wp2
              go_ret
              exact ⟨ret_bool (nodeOkV_no hr.out).symm, BB⟩
            | true =>
              have hr := Lib.hid (HA.out.trans (nodeAll_yes HX.out (by unfold entOk; rw [h1, h, h3]; simp)))
              rw [h3] at C3
              replace C3 := Lib.hid C3
              clear h h1 h3
              go_wp2_with fail
              refine (C1.out _).mono ?_
              rintro e w1 ⟨rfl, hj⟩
              have ke1 := keepc hj (show wr.heap.size < _ by first | omega | (simp; done) | (simp; omega)) ke
              have kn1 := keepc hj (show w.heap.size < _ by first | omega | (simp; done) | (simp; omega)) kn
              replace BB := BB.trans (hj.mono BB.size)
              have sz := hj.size
              try simp at sz
              clear hj ke kn
              have ke := ke1
              have kn := kn1
              clear ke1 kn1
              go_wp2_with fail
              refine (C2.out _ (HR.out.below BB)).mono ?_
              rintro e w2 ⟨rfl, hj⟩
              have ke2 := keepc hj (show wr.heap.size < _ by first | omega | (simp; done) | (simp; omega)) ke
              have kn2 := keepc hj (show w.heap.size < _ by first | omega | (simp; done) | (simp; omega)) kn
              replace BB := BB.trans (hj.mono BB.size)
              have sz := hj.size
              try simp at sz
              clear hj ke kn
              have ke := ke2
              have kn := kn2
              clear ke2 kn2
              go_wp2_with fail
              refine (C3.out _).mono ?_
              rintro e w3 ⟨rfl, rfl⟩
              have kn' := kn
              go_wp2
              go_roundw
              case rel => exact ⟨k + 1, by omega, by go_num, hr.out, kn', BB, by omega⟩
              case measure => simp [intOf]; omega
        · have C2 : ∀ V, RdS itLay V (some ⟨bb, off, none⟩) n cap xs → _ := fun V hV => sEntryAt_any (some ⟨bb, off, none⟩) n cap xs x.id V hV
          replace C2 := Lib.hid C2
          have hne : ((atV x.id xs 0) != (k : Int)) = true := by rw [bne_iff_ne]; exact h
          have hr := Lib.hid (HA.out.trans (nodeAll_no HX.out (by unfold entOk; rw [beq_eq_false_iff_ne.2 h]; simp)))
          clear h h1
          go_wp2_with fail
          refine (C1.out _).mono ?_
          rintro e w1 ⟨rfl, hj⟩
          have ke1 := keepc hj (show wr.heap.size < _ by first | omega | (simp; done) | (simp; omega)) ke
          have kn1 := keepc hj (show w.heap.size < _ by first | omega | (simp; done) | (simp; omega)) kn
          replace BB := BB.trans (hj.mono BB.size)
          have sz := hj.size
          try simp at sz
          clear hj ke kn
          have ke := ke1
          have kn := kn1
          clear ke1 kn1
          go_wp2_with fail
          refine (C2.out _ (HR.out.below BB)).mono ?_
          rintro e w2 ⟨rfl, hj⟩
          have ke2 := keepc hj (show wr.heap.size < _ by first | omega | (simp; done) | (simp; omega)) ke
          have kn2 := keepc hj (show w.heap.size < _ by first | omega | (simp; done) | (simp; omega)) kn
          replace BB := BB.trans (hj.mono BB.size)
          have sz := hj.size
          try simp at sz
          clear hj ke kn
          have ke := ke2
          have kn := kn2
          clear ke2 kn2
          go_wp2
          go_ret
          exact ⟨ret_bool (nodeOkV_no hr.out).symm, BB⟩
    · obtain rfl : k = n := by omega
      have hF : nodeAll b xs xs 0 = true := HA.out.trans (nodeAll_end b xs k (by rw [HL.out]; exact Nat.le_refl _))
      have hV : nodeOkV b xs = (decide (k ≤ 4) && (b || decide (0 < k))) := by unfold nodeOkV; rw [hF, HL.out]; rfl
      have HV := Lib.hid hV
      clear hF hV
      by_cases h4 : (k : Int) ≤ 4
      · cases b with
        | true =>
          have hr : Hid (nodeOkV true xs = true) := by show _ = _; rw [HV.out]; simp; omega
          go_wp2
          go_ret
          exact ⟨ret_bool hr.out.symm, BB⟩
        | false =>
          by_cases h0 : 0 < k
          · have hr : Hid (nodeOkV false xs = true) := by show _ = _; rw [HV.out]; simp; omega
            go_wp2
            go_ret
            exact ⟨ret_bool hr.out.symm, BB⟩
          · have hr : Hid (nodeOkV false xs = false) := by show _ = _; rw [HV.out]; simp; omega
            go_wp2
            go_ret
            exact ⟨ret_bool hr.out.symm, BB⟩
      · have hr : Hid (nodeOkV b xs = false) := by show _ = _; rw [HV.out]; simp; omega
        go_wp2
        go_ret
        exact ⟨ret_bool hr.out.symm, BB⟩
end Go.Proofs.YtfefggcfeppeiaaGreat

/- The model's BookOk. -/
namespace Go.Proofs.YtfefggcfeppeiaaGreat
open Go.RowKit
attribute [local go_sem ↓] Go.wp_at_zero Go.wp_at_succ

/-- A page by itself. -/
def pgOk (p : Pg) : Bool := if p.used then nodeOkV p.leaf p.xs else !p.leaf && p.xs.isEmpty
def kidOk (r : List Int) (root : Int) (x : It) : Bool := r.contains x.id && decide (x.id ≠ root)
def kidsOk (l : List Pg) (r : List Int) (root : Int) (i : Int) : Bool := (kidsP (pageAt l i)).all (kidOk r root)
def edges (l : List Pg) (r : List Int) : Nat := (r.map fun i => (kidsP (pageAt l i)).length).sum
def bookOkV (l : List Pg) (root : Int) : Bool :=
  decide (1 ≤ l.length ∧ l.length ≤ 48) && (!(reachV l root).isEmpty && (l.all pgOk && ((reachV l root).all (kidsOk l (reachV l root) root) && decide ((edges l (reachV l root) : Int) = ((reachV l root).length : Int) - 1))))

theorem all_no {ps : List PgV} {k : Nat} {p : PgV} (h : ps[k]? = some p) (hp : pgOk p.pg = false) : (ps.map PgV.pg).all pgOk = false := by
  rw [List.all_eq_false]
  exact ⟨_, List.mem_map.2 ⟨p, List.mem_of_getElem? h, rfl⟩, by rw [hp]; exact Bool.false_ne_true⟩

theorem edges_more {l : List Pg} {r : List Int} {k : Nat} {y : Int} (h : r[k]? = some y) : edges l (r.take (k + 1)) = edges l (r.take k) + (kidsP (pageAt l y)).length := by
  unfold edges
  rw [List.take_add_one, h, List.map_append, List.sum_append]
  simp
theorem allk_no {l : List Pg} {r : List Int} {root : Int} {k : Nat} {y : Int} (h : r[k]? = some y) (hk : kidsOk l r root y = false) : r.all (kidsOk l r root) = false := by
  rw [List.all_eq_false]
  exact ⟨_, List.mem_of_getElem? h, by rw [hk]; exact Bool.false_ne_true⟩

theorem allk_yes {l : List Pg} {r : List Int} {root : Int} (h : ∀ (j : Nat) (y : Int), r[j]? = some y → kidsOk l r root y = true) : r.all (kidsOk l r root) = true := by
  rw [List.all_eq_true]
  intro y hy
  obtain ⟨j, hj⟩ := List.getElem?_of_mem hy
  exact h j y hj
theorem kids_no {l : List Pg} {r : List Int} {root y : Int} {xs : List It} {j : Nat} {x : It} (h : kidsP (pageAt l y) = xs) (hx : xs[j]? = some x) (hk : kidOk r root x = false) : kidsOk l r root y = false := by
  unfold kidsOk
  rw [h, List.all_eq_false]
  exact ⟨x, List.mem_of_getElem? hx, by rw [hk]; exact Bool.false_ne_true⟩

set_option maxRecDepth 100000 in
set_option maxHeartbeats 3200000 in
theorem sBookOk_any (root : Int) (a : Option Addr) (n cap : Nat) (ps : List PgV) (w : World) (h : RdP w a n cap ps) (hn : n ≤ 1099511627776) (hps : ∀ p ∈ ps, p.n ≤ 1099511627776) :
    Calls Tryz.prog 37 #[.agg #[.int .i64 root, .slice a n cap]] w fun e w' => e = .returned (.bool (bookOkV (ps.map PgV.pg) root)) ∧ Below w.heap.size w w' := by
  have HL := Lib.hid h.1.1.1
  have HN := Lib.hid hps
  have hnc := h.1.1.2.1
  have hm := h.1.1.2.2.1
  unfold maxLen at hm
  obtain ⟨W0, hW0⟩ : ∃ W0, W0 = w.alloc (.cells #[.int .i64 root, .slice a n cap] 26) := ⟨_, rfl⟩
  have b0 : Below w.heap.size w W0 := by subst hW0; exact new_below w _
  have K0 : Loc W0 w.heap.size #[.int .i64 root, .slice a n cap] := by subst hW0; exact Loc.new w _ _
  have HR := Lib.hid (h.below b0)
  have C := Lib.hid (sReach_any root a n cap ps W0 HR.out hn)
  have k0 := K0.2.1 0
  have k1 := K0.2.1 1
  simp at k0 k1
  clear h hps
  obtain ⟨r, hrr⟩ : ∃ r, reachV (ps.map PgV.pg) root = r := ⟨_, rfl⟩
  rw [hrr] at C
  have hE : bookOkV (ps.map PgV.pg) root = (decide (1 ≤ n ∧ n ≤ 48) && (!r.isEmpty && ((ps.map PgV.pg).all pgOk && (r.all (kidsOk (ps.map PgV.pg) r root) && decide ((edges (ps.map PgV.pg) r : Int) = (r.length : Int) - 1))))) := by
    unfold bookOkV
    rw [hrr, List.length_map, HL.out]
  obtain ⟨res, hres⟩ : ∃ res, bookOkV (ps.map PgV.pg) root = res := ⟨_, rfl⟩
  rw [hres] at hE
  rw [hres]
  have HOK : Hid (OutOk (ps.map PgV.pg) r) := by rw [← hrr]; exact Lib.hid (walkV_ok _ _ _ _ ⟨List.nodup_nil, fun z hz => by cases hz⟩).1
  replace hrr := Lib.hid hrr
  replace hE := Lib.hid hE
  clear hres
  go_enter Tryz.func37, Tryz.ntmps37
  go_wp2_with fail
  rw [← hW0]
  clear hW0
  refine C.out.mono ?_
  rintro e w1 ⟨v1, rfl, o1, b1⟩
  obtain ⟨va, vc, rfl, hrd⟩ := Own.rd o1
  have K1 := Lib.hid (K0.below b1)
  have B1 := Lib.hid (b0.trans (b1.mono b0.size))
  have HR1 := Lib.hid (HR.out.below b1)
  have RD1 := Lib.hid hrd
  have c1 := K1.out.2.1 1
  have c0 := K1.out.2.1 0
  simp at c0 c1
  clear o1 b1 hrd C K0 k0 k1 b0 HR
  have hrl : r.length ≤ maxLen := Nat.le_trans RD1.out.1.2.1 RD1.out.1.2.2.1
  unfold maxLen at hrl
  have hq := K1.out.1
  by_cases hin : 1 ≤ (n : Int) ∧ (n : Int) ≤ 48
  · obtain ⟨h1, h2⟩ := hin
    have hd : decide (1 ≤ n ∧ n ≤ 48) = true := decide_eq_true (by omega)
    by_cases hr0 : r.length = 0
    · have hF : Hid (res = false) := by
        show res = false
        rw [hE.out, List.eq_nil_of_length_eq_zero hr0]
        simp
      go_wp2_with fail
      refine (l1In_yes (n : Int) 1 48 _ h1 h2).mono ?_
      rintro e w2 ⟨rfl, rfl⟩
      go_wp2
      go_ret
      exact ⟨ret_bool hF.out.symm, B1.out⟩
    · have hE2 : Hid (res = ((ps.map PgV.pg).all pgOk && (r.all (kidsOk (ps.map PgV.pg) r root) && decide ((edges (ps.map PgV.pg) r : Int) = (r.length : Int) - 1)))) := by
        show res = _
        rw [hE.out, hd, Bool.true_and]
        cases r with
        | nil => simp at hr0
        | cons r0 rs => rfl
      obtain ⟨rb, roff, rfl, hrc⟩ := RD1.out.2 (by omega)
      replace hrc := Lib.hid hrc
      clear hE hd
      have z5 : ((r.length : Int) == 0) = false := by rw [beq_eq_false_iff_ne]; omega
      go_wp2_with fail
      refine (l1In_yes (n : Int) 1 48 _ h1 h2).mono ?_
      rintro e w2 ⟨rfl, rfl⟩
      go_wp2
      go_loopw [4] (fun i wr => ∃ k : Nat, k ≤ n ∧ i = .int .i64 (k : Int) ∧ Hid (∀ (j : Nat) (p : PgV), j < k → ps[j]? = some p → pgOk p.pg = true) ∧ Below w1.heap.size w1 wr) (fun i _ => n - (intOf i).toNat)
      case atStart => exact ⟨0, Nat.zero_le _, rfl, Lib.hid (fun j p hj => by omega), Below.refl _ _⟩
      case round =>
        obtain ⟨k, hk, rfl, HA, hB⟩ := hrel
        have k1 := (hB.cell (p := ⟨w.heap.size, 1, none⟩) hq).trans c1
        by_cases hlt : k < n
        · obtain ⟨b, off, p, hpa, hbl, hp, hrd, d0, d1, d2⟩ := rdP_at (HR1.out.below hB) hlt
          rw [hpa] at k1
          have HP := Lib.hid hp
          have RP := Lib.hid hrd
          have z0 : (0 : Int) ≤ k := by omega
          have z1 : (k : Int) < n := by omega
          replace hpa := Lib.hid hpa
          clear hp hrd
          cases hu : p.used with
          | true =>
            rw [hu] at d0
            have CN := sNodeOk_any p.leaf p.a p.n p.cap p.xs wr RP.out
            cases hv : nodeOkV p.leaf p.xs with
            | true =>
              have hpg : pgOk p.pg = true := by unfold pgOk PgV.pg; simp only [hu]; exact hv
              have HS : Hid (∀ (j : Nat) (p : PgV), j < k + 1 → ps[j]? = some p → pgOk p.pg = true) := Lib.hid (fun j p' hj h' => by
                by_cases hjk : j < k
                · exact HA.out j p' hjk h'
                · obtain rfl : j = k := by omega
                  rw [HP.out] at h'
                  cases h'
                  exact hpg)
              rw [hv] at CN
              replace CN := Lib.hid CN
              clear hpg hu hv
              go_wp2_with fail
              refine CN.out.mono ?_
              rintro e w3 ⟨rfl, b3⟩
              have B3 := hB.trans (b3.mono hB.size)
              have k3 := (b3.cell (p := ⟨w.heap.size, 1, none⟩) (show w.heap.size < wr.heap.size by have := hB.size; omega)).trans k1
              have d3 := (b3.cell (p := ⟨b, off + k * 3, none⟩) hbl).trans d0
              clear k1 d0 d1 d2
              go_wp2
              go_roundw
              case rel => exact ⟨k + 1, by omega, by go_num, HS, B3⟩
              case measure => simp [intOf]; omega
            | false =>
              have hpg : pgOk p.pg = false := by unfold pgOk PgV.pg; simp only [hu]; exact hv
              have hF : Hid (res = false) := by
                show res = false
                rw [hE2.out, all_no HP.out hpg, Bool.false_and]
              rw [hv] at CN
              replace CN := Lib.hid CN
              clear hpg hu hv
              go_wp2_with fail
              refine CN.out.mono ?_
              rintro e w3 ⟨rfl, b3⟩
              have B3 := hB.trans (b3.mono hB.size)
              go_wp2
              go_ret
              exact ⟨ret_bool hF.out.symm, B1.out.trans (B3.mono B1.out.size)⟩
          | false =>
            rw [hu] at d0
            cases hl : p.leaf with
            | true =>
              have hpg : pgOk p.pg = false := by unfold pgOk PgV.pg; simp only [hu, hl]; rfl
              have hF : Hid (res = false) := by
                show res = false
                rw [hE2.out, all_no HP.out hpg, Bool.false_and]
              rw [hl] at d1
              clear hpg hu hl
              go_wp2
              go_ret
              exact ⟨ret_bool hF.out.symm, B1.out.trans (hB.mono B1.out.size)⟩
            | false =>
              rw [hl] at d1
              have hpl := RP.out.1.1
              by_cases hn0 : p.n = 0
              · have hpg : pgOk p.pg = true := by
                  unfold pgOk PgV.pg
                  simp only [hu, hl]
                  have e : p.xs = [] := List.eq_nil_of_length_eq_zero (by rw [hpl]; exact hn0)
                  rw [e]
                  rfl
                have HS : Hid (∀ (j : Nat) (p : PgV), j < k + 1 → ps[j]? = some p → pgOk p.pg = true) := Lib.hid (fun j p' hj h' => by
                  by_cases hjk : j < k
                  · exact HA.out j p' hjk h'
                  · obtain rfl : j = k := by omega
                    rw [HP.out] at h'
                    cases h'
                    exact hpg)
                rw [hn0] at d2
                clear hpg hu hl hpl
                go_wp2
                go_roundw
                case rel => exact ⟨k + 1, by omega, by go_num, HS, hB⟩
                case measure => simp [intOf]; omega
              · have hpg : pgOk p.pg = false := by
                  unfold pgOk PgV.pg
                  simp only [hu, hl]
                  cases e : p.xs with
                  | nil => rw [e] at hpl; exact absurd hpl.symm hn0
                  | cons _ _ => rfl
                have hF : Hid (res = false) := by
                  show res = false
                  rw [hE2.out, all_no HP.out hpg, Bool.false_and]
                have z7 : (0 : Int) < p.n := by omega
                clear hpg hu hl hpl
                go_wp2
                go_ret
                exact ⟨ret_bool hF.out.symm, B1.out.trans (hB.mono B1.out.size)⟩
        · have hAll : (ps.map PgV.pg).all pgOk = true := by
            rw [List.all_eq_true]
            intro q hq
            obtain ⟨p, hp, rfl⟩ := List.mem_map.1 hq
            obtain ⟨j, hj⟩ := List.getElem?_of_mem hp
            exact HA.out j p (by have := (List.getElem?_eq_some_iff.1 hj).1; rw [HL.out] at this; omega) hj
          have hE3 : Hid (res = (r.all (kidsOk (ps.map PgV.pg) r root) && decide ((edges (ps.map PgV.pg) r : Int) = (r.length : Int) - 1))) := by
            show res = _
            rw [hE2.out, hAll, Bool.true_and]
          clear hE2 hAll HA
          go_wp2
          go_loopw [5, 6] (fun v i wr2 => ∃ (k e : Nat), k ≤ r.length ∧ v = .int .i64 (e : Int) ∧ i = .int .i64 (k : Int) ∧ Hid (e = edges (ps.map PgV.pg) (r.take k)) ∧ e ≤ k * 1099511627776 ∧ Hid (∀ (j : Nat) (y : Int), j < k → r[j]? = some y → kidsOk (ps.map PgV.pg) r root y = true) ∧ Below w1.heap.size w1 wr2) (fun _ i _ => r.length - (intOf i).toNat)
          case atStart => exact ⟨0, 0, Nat.zero_le _, rfl, rfl, Lib.hid rfl, Nat.zero_le _, Lib.hid (fun j y hj => by omega), hB⟩
          case round =>
            clear hB k1
            obtain ⟨k', e', hk', rfl, rfl, HE, he', HA, hB⟩ := hrel
            have k1 := (hB.cell (p := ⟨w.heap.size, 1, none⟩) hq).trans c1
            have k0 := (hB.cell (p := ⟨w.heap.size, 0, none⟩) hq).trans c0
            have hsB := hB.size
            by_cases hlt2 : k' < r.length
            · have rc := hrc.out k' hlt2
              have hrb : rb < w1.heap.size := World.block_lt_of_cell? w1 ⟨rb, roff + k', none⟩ rc
              have r0 := (hB.cell (p := ⟨rb, roff + k', none⟩) hrb).trans rc
              obtain ⟨y, hy⟩ : ∃ y, r.getD k' 0 = y := ⟨_, rfl⟩
              have hy2 : r[k']? = some y := by
                rw [← hy, List.getD_eq_getElem?_getD, List.getElem?_eq_getElem hlt2]
                rfl
              rw [hy] at r0
              have hyr := HOK.out.2 y (List.mem_of_getElem? hy2)
              rw [List.length_map, HL.out] at hyr
              obtain ⟨m, rfl⟩ := Int.eq_ofNat_of_zero_le hyr.1
              have hmn : (m : Int) < n := hyr.2
              obtain ⟨pb, poff, p, hpa, hpl, hp, hprd, d0, d1, d2⟩ := rdP_at (HR1.out.below hB) (show m < n by omega)
              have hpg : pageAt (ps.map PgV.pg) m = p.pg := pageAt_yes hp
              have hpn := HN.out p (List.mem_of_getElem? hp)
              have RP := Lib.hid hprd
              have hrbs : rb < wr.heap.size := by omega
              have hqs : w.heap.size < wr.heap.size := by omega
              rw [hpa] at k1
              replace hpa := Lib.hid hpa
              have z3 : (k' : Int) < r.length := by omega
              have z4 : (0 : Int) ≤ k' := by omega
              have z6 : (0 : Int) ≤ m := by omega
              have HPP := Lib.hid hp
              clear hp hprd rc hy hyr
              have KX := Lib.hid (Loc.new wr #[.bool p.leaf, .slice p.a p.n p.cap] 59).drew
              have TB := Lib.hid ((hB.alloc hB.size (.cells #[.bool p.leaf, .slice p.a p.n p.cap] 59)).drew)
              obtain ⟨q1, hq1⟩ : ∃ q1, q1 = wr.heap.size := ⟨_, rfl⟩
              go_wp2_with fail
              go_big_region
              obtain ⟨W3, hW3⟩ : ∃ W3, W3 = (wr.alloc (.cells #[.bool p.leaf, .slice p.a p.n p.cap] 59)).drew := ⟨_, rfl⟩
              rw [← hW3] at KX TB
              rw [← hW3]
              rw [← hq1] at KX
              rw [← hq1]
              clear hW3 hq1 d0 d1 d2 r0 k0 k1
              have m0 := KX.out.2.1 0
              have m1 := KX.out.2.1 1
              simp at m0 m1
              cases hlf : p.leaf with
              | true =>
                have HB1 : Hid (e' ≤ (k' + 1) * 1099511627776) := Lib.hid (Nat.le_trans he' (Nat.mul_le_mul_right _ (Nat.le_succ _)))
                have hkid : kidsP (pageAt (ps.map PgV.pg) m) = [] := by
                  rw [hpg]
                  unfold kidsP
                  exact if_pos hlf
                have HS : Hid (∀ (j : Nat) (y : Int), j < k' + 1 → r[j]? = some y → kidsOk (ps.map PgV.pg) r root y = true) := Lib.hid (fun j y hj h' => by
                  by_cases hjk : j < k'
                  · exact HA.out j y hjk h'
                  · obtain rfl : j = k' := by omega
                    rw [hy2] at h'
                    cases h'
                    unfold kidsOk
                    rw [hkid]
                    rfl)
                have HE2 : Hid (e' = edges (ps.map PgV.pg) (r.take (k' + 1))) := by
                  show e' = _
                  rw [edges_more hy2, hkid, ← HE.out]
                  rfl
                rw [hlf] at m0
                clear hkid hlf hpg hy2
                go_wp2
                go_loopw [5, 8] (fun v i wx => v = .int .i64 (e' : Int) ∧ i = .int .i64 0 ∧ wx = W3) (fun _ _ _ => 0)
                case atStart => exact ⟨rfl, rfl, rfl⟩
                case round =>
                  obtain ⟨rfl, rfl, rfl⟩ := hrel
                  go_wp2
                  all_goals
                    go_roundw
                    case rel => exact ⟨k' + 1, e', by omega, rfl, by go_num, HE2, HB1.out, HS, TB.out⟩
                    case measure => simp [intOf]; omega
              | false =>
                rw [hlf] at m0
                have hkid : kidsP (pageAt (ps.map PgV.pg) m) = p.xs := by
                  rw [hpg]
                  unfold kidsP
                  exact if_neg (by rw [show p.pg.leaf = p.leaf from rfl, hlf]; exact Bool.false_ne_true)
                have HPX := Lib.hid (HR1.out.2 p (List.mem_of_getElem? HPP.out))
                have hpxl := HPX.out.1.1
                have h48 : k' ≤ 48 := by
                  have h3 := HOK.out.len
                  rw [List.length_map, HL.out] at h3
                  omega
                have he48 : e' ≤ 52776558133248 := Nat.le_trans he' (Nat.mul_le_mul_right _ h48)
                have HB1 : Hid (e' + p.n ≤ (k' + 1) * 1099511627776) := Lib.hid (by rw [Nat.add_mul, Nat.one_mul]; exact Nat.add_le_add he' hpn)
                have hst := TB.out.size
                have hq1 := KX.out.1
                clear hlf hpg
                go_wp2
                go_loopw [5, 8] (fun v i wx => ∃ j : Nat, j ≤ p.n ∧ v = .int .i64 ((e' : Int) + j) ∧ i = .int .i64 (j : Int) ∧ Hid (∀ (t : Nat) (x : It), t < j → p.xs[t]? = some x → kidOk r root x = true) ∧ Below W3.heap.size W3 wx) (fun _ i _ => p.n - (intOf i).toNat)
                case atStart => exact ⟨0, Nat.zero_le _, by rw [show ((0 : Nat) : Int) = 0 from rfl, Int.add_zero], rfl, Lib.hid (fun t x ht => by omega), Below.refl _ _⟩
                case round =>
                  obtain ⟨j, hj, rfl, rfl, HK, hX⟩ := hrel
                  have hBX := TB.out.trans (hX.mono TB.out.size)
                  have k1 := (hBX.cell (p := ⟨w.heap.size, 1, none⟩) hq).trans c1
                  have k0 := (hBX.cell (p := ⟨w.heap.size, 0, none⟩) hq).trans c0
                  have n0 := (hX.cell (p := ⟨q1, 0, none⟩) hq1).trans m0
                  have n1 := (hX.cell (p := ⟨q1, 1, none⟩) hq1).trans m1
                  have hsX := hX.size
                  by_cases hlt3 : j < p.n
                  · obtain ⟨xb, xoff, x, hxa, hxl, hx, d0, d1, d2, d3, d4⟩ := rdIt_at (HPX.out.below hBX) hlt3
                    rw [hxa] at n1
                    replace hxa := Lib.hid hxa
                    have HXX := Lib.hid hx
                    have z7 : (j : Int) < p.n := by omega
                    have z8 : (0 : Int) ≤ j := by omega
                    have hqx : w.heap.size < wr.heap.size := by omega
                    have hqx1 : q1 < wr.heap.size := by omega
                    have KS : Hid (∀ V, Below wr.heap.size wr V → (fun V => Below wr.heap.size wr V ∧ V.cell? ⟨w.heap.size, 0, none⟩ = some (.int .i64 root) ∧ V.cell? ⟨q1, 1, none⟩ = some (.slice (some ⟨xb, xoff, none⟩) p.n p.cap) ∧ V.cell? ⟨xb, xoff + j * 5, none⟩ = some (.int .i64 x.id)) V) := Lib.hid (fun V b => ⟨b, (b.cell (p := ⟨w.heap.size, 0, none⟩) hqx).trans k0, (b.cell (p := ⟨q1, 1, none⟩) hqx1).trans n1, (b.cell (p := ⟨xb, xoff + j * 5, none⟩) hxl).trans d0⟩)
                    have KT : Hid (∀ V V' : World, Below wr.heap.size wr V → Below V.heap.size V V' → Below wr.heap.size wr V') := Lib.hid (fun V V' b b' => b.trans (b'.mono b.size))
                    have CH : ∀ V, Below wr.heap.size wr V → Calls Tryz.prog 64 #[.slice (some ⟨rb, roff, none⟩) r.length vc, .int .i64 x.id] V fun e w' => e = .returned (.bool (r.contains x.id)) ∧ Below V.heap.size V w' := fun V bV => l7Has_any (some ⟨rb, roff, none⟩) r.length vc r x.id V ((RD1.out.below hBX).below bV)
                    clear hx d1 d2 d3 d4
                    cases hc : r.contains x.id with
                    | true =>
                      rw [hc] at CH
                      replace CH := Lib.hid CH
                      by_cases hxr : x.id = root
                      · have hkx : kidOk r root x = false := by unfold kidOk; rw [decide_eq_false (fun h => h hxr), Bool.and_false]
                        have hF : Hid (res = false) := by
                          show res = false
                          rw [hE3.out, allk_no hy2 (kids_no hkid HXX.out hkx), Bool.false_and]
                        have hbq : (x.id == root) = true := by rw [beq_iff_eq]; exact hxr
                        clear hkx hc hxr
                        go_wp2_with fail
                        go_region_held3 (fun V => Below wr.heap.size wr V ∧ V.cell? ⟨w.heap.size, 0, none⟩ = some (.int .i64 root) ∧ V.cell? ⟨q1, 1, none⟩ = some (.slice (some ⟨xb, xoff, none⟩) p.n p.cap) ∧ V.cell? ⟨xb, xoff + j * 5, none⟩ = some (.int .i64 x.id))
                          (first | exact KS.out _ (drew_below _) | exact KS.out _ (KT.out _ _ (And.left (by assumption)) hb))
                          (first | (go_at_call 64; (with_reducible refine (CH.out _ (by first | exact drew_below _ | exact And.left (by assumption))).mono ?_); rintro e wu ⟨rfl, hb⟩))
                        all_goals
                          rename_i hS
                          have hXn := hX.trans (hS.1.mono hX.size)
                          have hBn := hBX.trans (hS.1.mono hBX.size)
                          clear hS
                          go_wp2
                          go_ret
                          exact ⟨ret_bool hF.out.symm, B1.out.trans (hBn.mono B1.out.size)⟩
                      · have hkx : kidOk r root x = true := by unfold kidOk; rw [hc, decide_eq_true hxr]; rfl
                        have HKS : Hid (∀ (t : Nat) (y : It), t < j + 1 → p.xs[t]? = some y → kidOk r root y = true) := Lib.hid (fun t y ht h' => by
                          by_cases htj : t < j
                          · exact HK.out t y htj h'
                          · obtain rfl : t = j := by omega
                            rw [HXX.out] at h'
                            cases h'
                            exact hkx)
                        have hbq : (x.id == root) = false := by rw [beq_eq_false_iff_ne]; exact hxr
                        clear hkx hc hxr
                        go_wp2_with fail
                        go_region_held3 (fun V => Below wr.heap.size wr V ∧ V.cell? ⟨w.heap.size, 0, none⟩ = some (.int .i64 root) ∧ V.cell? ⟨q1, 1, none⟩ = some (.slice (some ⟨xb, xoff, none⟩) p.n p.cap) ∧ V.cell? ⟨xb, xoff + j * 5, none⟩ = some (.int .i64 x.id))
                          (first | exact KS.out _ (drew_below _) | exact KS.out _ (KT.out _ _ (And.left (by assumption)) hb))
                          (first | (go_at_call 64; (with_reducible refine (CH.out _ (by first | exact drew_below _ | exact And.left (by assumption))).mono ?_); rintro e wu ⟨rfl, hb⟩))
                        all_goals
                          rename_i hS
                          have hXn := hX.trans (hS.1.mono hX.size)
                          have hBn := hBX.trans (hS.1.mono hBX.size)
                          clear hS
                          go_wp2
                          go_roundw
                          case rel => exact ⟨j + 1, by omega, by go_num, by go_num, HKS, hXn⟩
                          case measure => simp [intOf]; omega
                    | false =>
                      rw [hc] at CH
                      replace CH := Lib.hid CH
                      have hkx : kidOk r root x = false := by unfold kidOk; rw [hc]; rfl
                      have hF : Hid (res = false) := by
                        show res = false
                        rw [hE3.out, allk_no hy2 (kids_no hkid HXX.out hkx), Bool.false_and]
                      clear hkx hc
                      go_wp2_with fail
                      refine wp_region_noPanic ?_
                      refine wp_region_held_drew (S := fun V => Below wr.heap.size wr V ∧ V.cell? ⟨w.heap.size, 0, none⟩ = some (.int .i64 root) ∧ V.cell? ⟨q1, 1, none⟩ = some (.slice (some ⟨xb, xoff, none⟩) p.n p.cap) ∧ V.cell? ⟨xb, xoff + j * 5, none⟩ = some (.int .i64 x.id)) (by kernel_rfl) (KS.out _ (drew_below _)) (fun hHeld => ?_)
                      refine wpAnyH_take (i := 0) (v := ?v0) rfl (by kernel_rfl) (by kernel_rfl) (by kernel_rfl) (fun _ _ _ h => h) (Or.inl ⟨by rfl, ?hy0⟩) (by assumption) ?rest0
                      case hy0 => intro w hSw; (try dsimp only at hSw); go_simp; (try with_reducible rfl)
                      simp only [List.getElem_toArray, List.getElem_cons_zero, Act.put, List.setIfInBounds_toArray, List.set_cons_zero, List.set_cons_succ]
                      refine wpAnyH_take (i := 1) (v := ?v1) rfl (by kernel_rfl) (by kernel_rfl) (by kernel_rfl) (fun _ _ _ h => h) (Or.inl ⟨by rfl, ?hy1⟩) (by assumption) ?rest1
                      case hy1 => intro w hSw; (try dsimp only at hSw); go_simp; (try with_reducible rfl)
                      simp only [List.getElem_toArray, List.getElem_cons_zero, List.getElem_cons_succ, Act.put, List.setIfInBounds_toArray, List.set_cons_zero, List.set_cons_succ]
                      refine wpAnyH_take (i := 2) (v := ?v2) rfl (by kernel_rfl) (by kernel_rfl) (by kernel_rfl) (fun _ _ _ h => h) (Or.inl ⟨by rfl, ?hy2⟩) (by assumption) ?rest2
                      case hy2 => intro w hSw; (try dsimp only at hSw); go_simp; (try with_reducible rfl)
                      simp only [List.getElem_toArray, List.getElem_cons_zero, List.getElem_cons_succ, Act.put, List.setIfInBounds_toArray, List.set_cons_zero, List.set_cons_succ]
                      refine wpAnyH_take (i := 3) (v := ?v3) rfl (by kernel_rfl) (by kernel_rfl) (by kernel_rfl) (fun _ _ _ h => h) (Or.inl ⟨by rfl, ?hy3⟩) (by assumption) ?rest3
                      case hy3 => intro w hSw; (try dsimp only at hSw); go_simp; (try with_reducible rfl)
                      simp only [List.getElem_toArray, List.getElem_cons_zero, List.getElem_cons_succ, Act.put, List.setIfInBounds_toArray, List.set_cons_zero, List.set_cons_succ]
                      refine wpAnyH_take (i := 4) (v := ?v4) rfl (by kernel_rfl) (by kernel_rfl) (by kernel_rfl) (fun _ _ _ h => h) (Or.inl ⟨by rfl, ?hy4⟩) (by assumption) ?rest4
                      case hy4 => intro w hSw; (try dsimp only at hSw); go_simp; (try with_reducible rfl)
                      simp only [List.getElem_toArray, List.getElem_cons_zero, List.getElem_cons_succ, Act.put, List.setIfInBounds_toArray, List.set_cons_zero, List.set_cons_succ]
                      refine wpAnyH_take (i := 5) (v := ?v5) rfl (by kernel_rfl) (by kernel_rfl) (by kernel_rfl) (fun _ _ _ h => h) (Or.inl ⟨by rfl, ?hy5⟩) (by assumption) ?rest5
                      case hy5 => intro w hSw; (try dsimp only at hSw); go_simp; (try with_reducible rfl)
                      simp only [List.getElem_toArray, List.getElem_cons_zero, List.getElem_cons_succ, Act.put, List.setIfInBounds_toArray, List.set_cons_zero, List.set_cons_succ]
                      refine wpAnyH_take (i := 6) (v := ?v6) rfl (by kernel_rfl) (by kernel_rfl) (by kernel_rfl) (fun _ _ _ h => h) (Or.inl ⟨by rfl, ?hy6⟩) (by assumption) ?rest6
                      case hy6 => intro w hSw; (try dsimp only at hSw); go_simp; (try with_reducible rfl)
                      simp only [List.getElem_toArray, List.getElem_cons_zero, List.getElem_cons_succ, Act.put, List.setIfInBounds_toArray, List.set_cons_zero, List.set_cons_succ]
                      refine wpAnyH_ready (rs := [7]) (by kernel_rfl) (by simp) ?_
                      refine AllReadyH.cons rfl (fun K hK => ?_) AllReadyH.nil
                      go_simp
                      (with_reducible refine (CH.out _ (by first | exact drew_below _ | exact And.left (by assumption))).mono ?_); rintro e wu ⟨rfl, hb⟩
                      refine hK.out _ _ (KS.out _ (KT.out _ _ (And.left (by assumption)) hb)) (fun hHeld => ?_)
                      clear hK K
                      refine wpAnyH_take (i := 8) (v := ?v8) rfl (by kernel_rfl) (by kernel_rfl) (by kernel_rfl) (fun _ _ _ h => h) (Or.inl ⟨by rfl, ?hy8⟩) (by assumption) ?rest8
                      case hy8 => intro w hSw; (try dsimp only at hSw); go_simp; (try with_reducible rfl)
                      simp only [List.getElem_toArray, List.getElem_cons_zero, List.getElem_cons_succ, Act.put, List.setIfInBounds_toArray, List.set_cons_zero, List.set_cons_succ]
                      refine wpAnyH_take (i := 9) (v := ?v9) rfl (by kernel_rfl) (by kernel_rfl) (by kernel_rfl) (fun _ _ _ h => h) (Or.inl ⟨by rfl, ?hy9⟩) (by assumption) ?rest9
                      case hy9 => intro w hSw; (try dsimp only at hSw); go_simp; (try with_reducible rfl)
                      simp only [List.getElem_toArray, List.getElem_cons_zero, List.getElem_cons_succ, Act.put, List.setIfInBounds_toArray, List.set_cons_zero, List.set_cons_succ]
                      refine wpAnyH_take (i := 10) (v := undef) rfl (by kernel_rfl) (by kernel_rfl) (by kernel_rfl) (fun _ _ _ h => h) (Or.inr ⟨by rfl, rfl⟩) (by assumption) ?_
                      simp only [List.getElem_toArray, List.getElem_cons_zero, List.getElem_cons_succ, Act.put, List.setIfInBounds_toArray, List.set_cons_zero, List.set_cons_succ]
                      refine wpAnyH_take (i := 11) (v := undef) rfl (by kernel_rfl) (by kernel_rfl) (by kernel_rfl) (fun _ _ _ h => h) (Or.inr ⟨by rfl, rfl⟩) (by assumption) ?_
                      simp only [List.getElem_toArray, List.getElem_cons_zero, List.getElem_cons_succ, Act.put, List.setIfInBounds_toArray, List.set_cons_zero, List.set_cons_succ]
                      refine wpAnyH_take (i := 12) (v := undef) rfl (by kernel_rfl) (by kernel_rfl) (by kernel_rfl) (fun _ _ _ h => h) (Or.inr ⟨by rfl, rfl⟩) (by assumption) ?_
                      simp only [List.getElem_toArray, List.getElem_cons_zero, List.getElem_cons_succ, Act.put, List.setIfInBounds_toArray, List.set_cons_zero, List.set_cons_succ]
                      refine wpAnyH_take (i := 13) (v := undef) rfl (by kernel_rfl) (by kernel_rfl) (by kernel_rfl) (fun _ _ _ h => h) (Or.inr ⟨by rfl, rfl⟩) (by assumption) ?_
                      simp only [List.getElem_toArray, List.getElem_cons_zero, List.getElem_cons_succ, Act.put, List.setIfInBounds_toArray, List.set_cons_zero, List.set_cons_succ]
                      refine wpAnyH_take (i := 14) (v := undef) rfl (by kernel_rfl) (by kernel_rfl) (by kernel_rfl) (fun _ _ _ h => h) (Or.inr ⟨by rfl, rfl⟩) (by assumption) ?_
                      simp only [List.getElem_toArray, List.getElem_cons_zero, List.getElem_cons_succ, Act.put, List.setIfInBounds_toArray, List.set_cons_zero, List.set_cons_succ]
                      refine wpAnyH_take (i := 15) (v := undef) rfl (by kernel_rfl) (by kernel_rfl) (by kernel_rfl) (fun _ _ _ h => h) (Or.inr ⟨by rfl, rfl⟩) (by assumption) ?_
                      simp only [List.getElem_toArray, List.getElem_cons_zero, List.getElem_cons_succ, Act.put, List.setIfInBounds_toArray, List.set_cons_zero, List.set_cons_succ]
                      refine wpAnyH_take (i := 16) (v := undef) rfl (by kernel_rfl) (by kernel_rfl) (by kernel_rfl) (fun _ _ _ h => h) (Or.inr ⟨by rfl, rfl⟩) (by assumption) ?_
                      simp only [List.getElem_toArray, List.getElem_cons_zero, List.getElem_cons_succ, Act.put, List.setIfInBounds_toArray, List.set_cons_zero, List.set_cons_succ]
                      refine wpAnyH_take (i := 17) (v := undef) rfl (by kernel_rfl) (by kernel_rfl) (by kernel_rfl) (fun _ _ _ h => h) (Or.inr ⟨by rfl, rfl⟩) (by assumption) ?_
                      simp only [List.getElem_toArray, List.getElem_cons_zero, List.getElem_cons_succ, Act.put, List.setIfInBounds_toArray, List.set_cons_zero, List.set_cons_succ]
                      refine wpAnyH_take (i := 18) (v := undef) rfl (by kernel_rfl) (by kernel_rfl) (by kernel_rfl) (fun _ _ _ h => h) (Or.inr ⟨by rfl, rfl⟩) (by assumption) ?_
                      simp only [List.getElem_toArray, List.getElem_cons_zero, List.getElem_cons_succ, Act.put, List.setIfInBounds_toArray, List.set_cons_zero, List.set_cons_succ]
                      refine wpAnyH_take (i := 19) (v := ?v19) rfl (by kernel_rfl) (by kernel_rfl) (by kernel_rfl) (fun _ _ _ h => h) (Or.inl ⟨by rfl, ?hy19⟩) (by assumption) ?rest19
                      case hy19 => intro w hSw; (try dsimp only at hSw); go_simp; (try with_reducible rfl)
                      simp only [List.getElem_toArray, List.getElem_cons_zero, List.getElem_cons_succ, Act.put, List.setIfInBounds_toArray, List.set_cons_zero, List.set_cons_succ]
                      refine wpAnyH_done (by kernel_rfl) ?_ _
                      refine NoPanic.normal ?_
                      have hBn := hBX.trans (hHeld.1.mono hBX.size)
                      clear hHeld
                      go_wp2
                      go_ret
                      exact ⟨ret_bool hF.out.symm, B1.out.trans (hBn.mono B1.out.size)⟩
                  · obtain rfl : j = p.n := by omega
                    have HS : Hid (∀ (j : Nat) (y : Int), j < k' + 1 → r[j]? = some y → kidsOk (ps.map PgV.pg) r root y = true) := Lib.hid (fun j y hj h' => by
                      by_cases hjk : j < k'
                      · exact HA.out j y hjk h'
                      · obtain rfl : j = k' := by omega
                        rw [hy2] at h'
                        cases h'
                        unfold kidsOk
                        rw [hkid, List.all_eq_true]
                        intro z hz
                        obtain ⟨t, ht⟩ := List.getElem?_of_mem hz
                        exact HK.out t z (by have := (List.getElem?_eq_some_iff.1 ht).1; omega) ht)
                    have HE2 : Hid (e' + p.n = edges (ps.map PgV.pg) (r.take (k' + 1))) := by
                      show e' + p.n = _
                      rw [edges_more hy2, hkid, ← HE.out, hpxl]
                    clear hkid hy2 HK
                    go_wp2
                    go_roundw
                    case rel => exact ⟨k' + 1, e' + p.n, by omega, by go_num, by go_num, HE2, HB1.out, HS, hBX⟩
                    case measure => simp [intOf]; omega
            · obtain rfl : k' = r.length := by omega
              have hE4 : Hid (res = decide ((e' : Int) = (r.length : Int) - 1)) := by
                show res = _
                rw [hE3.out, HE.out, List.take_length, allk_yes (fun j y hj => HA.out j y (List.getElem?_eq_some_iff.1 hj).1 hj), Bool.true_and]
              clear hE3 HA HE
              go_wp2
              go_ret
              exact ⟨ret_bool (by rw [hE4.out]; rfl), B1.out.trans (hB.mono B1.out.size)⟩
  · have hF : Hid (res = false) := by
      show res = false
      rw [hE.out, decide_eq_false (by omega), Bool.false_and]
    go_wp2_with fail
    refine (l1In_no (n : Int) 1 48 _ hin).mono ?_
    rintro e w2 ⟨rfl, rfl⟩
    go_wp2
    go_ret
    exact ⟨ret_bool hF.out.symm, B1.out⟩
end Go.Proofs.YtfefggcfeppeiaaGreat

/- Whether two slices hold the same items. -/
namespace Go.Proofs.YtfefggcfeppeiaaGreat
open Go.RowKit

theorem neItem_run (a b : It) (w : World) :
    (binOp .neq 47 (.agg #[.int .i64 a.id, .int .i64 a.x0, .int .i64 a.y0, .int .i64 a.x1, .int .i64 a.y1]) (.agg #[.int .i64 b.id, .int .i64 b.x0, .int .i64 b.y0, .int .i64 b.x1, .int .i64 b.y1])).run Tryz.prog w = .ok (.bool (!itEq a b)) w := by
  obtain ⟨i, x0, y0, x1, y1⟩ := a
  obtain ⟨j, u0, v0, u1, v1⟩ := b
  unfold itEq boxEq
  by_cases h : i = j
  · by_cases h0 : x0 = u0
    · by_cases h1 : y0 = v0
      · by_cases h2 : x1 = u1
        · by_cases h3 : y1 = v1
          all_goals go_simp
        · go_simp
      · go_simp
    · go_simp
  · go_simp

def sameV (xs ys : List It) : Bool := xs.length == ys.length && (xs.zip ys).all fun p => itEq p.1 p.2
theorem sameV_len {xs ys : List It} (h : xs.length ≠ ys.length) : sameV xs ys = false := by unfold sameV; simp [h]
theorem sameV_iff (xs ys : List It) : sameV xs ys = true ↔ xs = ys := by
  unfold sameV
  induction xs generalizing ys with
  | nil => cases ys <;> simp
  | cons x l ih =>
    cases ys with
    | nil => simp
    | cons y m =>
      have := ih m
      simp only [List.length_cons, List.zip_cons_cons, List.all_cons, Bool.and_eq_true, beq_iff_eq, Nat.add_right_cancel_iff, List.cons.injEq, itEq_iff] at this ⊢
      rw [← this]
      constructor
      · rintro ⟨a, b, c⟩; exact ⟨b, a, c⟩
      · rintro ⟨b, a, c⟩; exact ⟨a, b, c⟩
theorem sameV_no {xs ys : List It} {k : Nat} {x y : It} (hx : xs[k]? = some x) (hy : ys[k]? = some y) (h : itEq x y = false) : sameV xs ys = false := by
  rw [Bool.eq_false_iff]
  intro h'
  have := (sameV_iff xs ys).1 h'
  subst this
  rw [hx] at hy
  obtain rfl : x = y := by simpa using hy
  rw [itEq_self] at h
  cases h
theorem sameV_end {xs ys : List It} (hl : xs.length = ys.length) (h : ∀ (k : Nat) (x y : It), k < xs.length → xs[k]? = some x → ys[k]? = some y → itEq x y = true) : sameV xs ys = true := by
  rw [sameV_iff]
  apply List.ext_getElem? 
  intro k
  by_cases hk : k < xs.length
  · have h1 : xs[k]? = some xs[k] := List.getElem?_eq_getElem hk
    have h2 : ys[k]? = some (ys[k]'(by omega)) := List.getElem?_eq_getElem _
    have := (itEq_iff _ _).1 (h k _ _ hk h1 h2)
    rw [h1, h2, this]
  · rw [List.getElem?_eq_none (by omega), List.getElem?_eq_none (by omega)]

end Go.Proofs.YtfefggcfeppeiaaGreat

/- Whether two nodes are the same. -/
namespace Go.Proofs.YtfefggcfeppeiaaGreat
open Go.RowKit

theorem neEntry_run (a b : It) (w : World) :
    (binOp .neq 77 (.agg #[.int .i64 a.id, .int .i64 a.x0, .int .i64 a.y0, .int .i64 a.x1, .int .i64 a.y1]) (.agg #[.int .i64 b.id, .int .i64 b.x0, .int .i64 b.y0, .int .i64 b.x1, .int .i64 b.y1])).run Tryz.prog w = .ok (.bool (!itEq a b)) w := by
  obtain ⟨i, x0, y0, x1, y1⟩ := a
  obtain ⟨j, u0, v0, u1, v1⟩ := b
  unfold itEq boxEq
  by_cases h : i = j
  · by_cases h0 : x0 = u0
    · by_cases h1 : y0 = v0
      · by_cases h2 : x1 = u1
        · by_cases h3 : y1 = v1
          all_goals go_simp
        · go_simp
      · go_simp
    · go_simp
  · go_simp


end Go.Proofs.YtfefggcfeppeiaaGreat

/- The model's SameBook. -/
namespace Go.Proofs.YtfefggcfeppeiaaGreat
open Go.RowKit
attribute [local go_sem ↓] Go.wp_at_zero Go.wp_at_succ

def samePg (p q : Pg) : Bool := p.used == q.used && (p.leaf == q.leaf && sameV p.xs q.xs)
/-- SameBook's answer. -/
def sameB (r s : Int) (l l' : List Pg) : Bool := decide (r = s) && (decide (l.length = l'.length) && (l.zip l').all fun z => samePg z.1 z.2)
theorem zip_at {α β : Type} {l : List α} {l' : List β} {k : Nat} {x : α} {y : β} (h : l[k]? = some x) (h' : l'[k]? = some y) : (l.zip l')[k]? = some (x, y) := by
  rw [List.getElem?_zip_eq_some]
  exact ⟨h, h'⟩
theorem sameB_no {r s : Int} {ps qs : List PgV} {k : Nat} {p q : PgV} (hp : ps[k]? = some p) (hq : qs[k]? = some q) (h : samePg p.pg q.pg = false) : sameB r s (ps.map PgV.pg) (qs.map PgV.pg) = false := by
  have hz := zip_at (show (ps.map PgV.pg)[k]? = some p.pg by rw [List.getElem?_map, hp]; rfl) (show (qs.map PgV.pg)[k]? = some q.pg by rw [List.getElem?_map, hq]; rfl)
  have : ((ps.map PgV.pg).zip (qs.map PgV.pg)).all (fun z => samePg z.1 z.2) = false := by
    rw [List.all_eq_false]
    exact ⟨_, List.mem_of_getElem? hz, by simp [h]⟩
  unfold sameB
  rw [this]
  simp
theorem sameB_yes {r : Int} {ps qs : List PgV} (hl : ps.length = qs.length) (h : ∀ (j : Nat) (p q : PgV), j < ps.length → ps[j]? = some p → qs[j]? = some q → samePg p.pg q.pg = true) : sameB r r (ps.map PgV.pg) (qs.map PgV.pg) = true := by
  unfold sameB
  simp only [decide_true, Bool.true_and, List.length_map, hl]
  rw [List.all_eq_true]
  intro z hz
  obtain ⟨j, hj⟩ := List.getElem?_of_mem hz
  rw [List.getElem?_zip_eq_some] at hj
  obtain ⟨h1, h2⟩ := hj
  rw [List.getElem?_map] at h1 h2
  cases e1 : ps[j]? with
  | none => rw [e1] at h1; cases h1
  | some p =>
    cases e2 : qs[j]? with
    | none => rw [e2] at h2; cases h2
    | some q =>
      rw [e1] at h1
      rw [e2] at h2
      have hj : j < ps.length := (List.getElem?_eq_some_iff.1 e1).1
      have := h j p q hj e1 e2
      simp only [Option.map_some, Option.some.injEq] at h1 h2
      rw [h1, h2] at this
      exact this

end Go.Proofs.YtfefggcfeppeiaaGreat

/- What the program's Reach, BookOk and SameBook are to answer (to be proved of the landed code). -/
namespace Go.Proofs.YtfefggcfeppeiaaGreat
open Go.RowKit

/-- Every number in a book is one. -/
def WfL (l : List Pg) : Prop := ∀ p ∈ l, ∀ x ∈ p.xs, (Lit.int .i64 x.id).wf = true
theorem WfL.of {ps : List PgV} (h : WfL (ps.map PgV.pg)) : ∀ p ∈ ps, ∀ x ∈ p.xs, (Lit.int .i64 x.id).wf = true := fun _ hp => h _ (List.mem_map_of_mem hp)
def RetI (L : List Int) (w : World) (e : Ending) (w' : World) : Prop := ∃ v, e = .returned v ∧ Own .i64 3 w' w.heap.size v L ∧ Below w.heap.size w w'
def RetB (b : Bool) (w : World) (e : Ending) (w' : World) : Prop := e = .returned (.bool b) ∧ Below w.heap.size w w'
def CReach (f : FuncId) : Prop := ∀ (root : Int) (a : Option Addr) (n cap : Nat) (ps : List PgV) (w : World), RdP w a n cap ps → n ≤ 1099511627776 → (∀ p ∈ ps, p.n ≤ 1099511627776) → totG (ps.map PgV.pg) ≤ 1099511627776 →
  Calls Tryz.prog f #[.agg #[.int .i64 root, .slice a n cap]] w (RetI (reachV (ps.map PgV.pg) root) w)
def CBookOk (f : FuncId) : Prop := ∀ (root : Int) (a : Option Addr) (n cap : Nat) (ps : List PgV) (w : World), RdP w a n cap ps → n ≤ 1099511627776 → (∀ p ∈ ps, p.n ≤ 1099511627776) → totG (ps.map PgV.pg) ≤ 1099511627776 →
  Calls Tryz.prog f #[.agg #[.int .i64 root, .slice a n cap]] w (RetB (bookOkV (ps.map PgV.pg) root) w)
def CSameBook (f : FuncId) : Prop := ∀ (r s : Int) (a b : Option Addr) (n m c1 c2 : Nat) (ps qs : List PgV) (w : World), RdP w a n c1 ps → RdP w b m c2 qs → n ≤ 1099511627776 → m ≤ 1099511627776 → (∀ p ∈ ps, p.n ≤ 1099511627776) → (∀ p ∈ qs, p.n ≤ 1099511627776) →
  Calls Tryz.prog f #[.agg #[.int .i64 r, .slice a n c1], .agg #[.int .i64 s, .slice b m c2]] w (RetB (sameB r s (ps.map PgV.pg) (qs.map PgV.pg)) w)
theorem sReach_c : CReach 43 := fun root a n cap ps w h hn _ _ => sReach_any root a n cap ps w h hn
theorem sBookOk_c : CBookOk 37 := fun root a n cap ps w h hn hp _ => sBookOk_any root a n cap ps w h hn hp
theorem reachV_le (l : List Pg) (root : Int) : (reachV l root).length ≤ l.length := (walkV_ok l _ root [] ⟨List.nodup_nil, fun z hz => by cases hz⟩).1.len
end Go.Proofs.YtfefggcfeppeiaaGreat

/- append to a row of one's own: the row that comes out is the one that was there, or a new one. -/
namespace Go.Proofs.YtfefggcfeppeiaaGreat
open Go.RowKit

section
variable {P : Program} {w : World}
theorem run_append_where (base : Nat) (t ty e : TypeId) (i : TypeInfo) (z : Value) (size bytes : Nat) (ht : P.underlying t = some (.slice e)) (hi : P.info? e = some i) (hz : i.zero = some z)
    (hsize : i.size = size) (hby : i.bytes = bytes) (v : Value) (n : Nat) (xs : List Value) (hown : w.ownsRow base e size v n xs)
    (ad : Addr) (m c : Nat) (news : List Value) (hl : news.length = m * size) (hnews : ∀ j u, news[j]? = some u → w.cell? (ad.add j) = some u) (h1 : ∀ u ∈ news, u.oneCell' = true)
    (h63 : n + m ≤ maxLen) (hbytes : (n + m) * bytes ≤ 140737488355328) {v' : Value} {w' : World} (hrun : (Builtin.append_ #[t, t] ty #[v, .slice (some ad) m c]).run P w = .ok v' w') (hnil : v' = .slice none 0 0 ↔ v = .slice none 0 0 ∧ m = 0) :
    ∀ g, v'.ownBlock = some g → v.ownBlock = some g ∨ w.heap.size ≤ g := by
  subst hsize
  subst hby
  unfold maxLen at h63
  intro q hq
  rcases hown.2 with ⟨rfl, rfl⟩ | ⟨g, cap, cur, rfl, _, hg, hnc, _, hcs, _⟩
  · by_cases hm : m = 0
    · rw [hnil.2 ⟨rfl, hm⟩] at hq
      cases hq
    · have hr := run_append_nil (P := P) w t ty e i z ht hi hz ad m c news hl hnews (by omega) (by omega) (by have hb := hbytes; simp only [Nat.zero_add] at hb; omega)
      rw [hrun] at hr
      injection hr with e1 e2
      rw [e1] at hq
      right
      have : w.heap.size = q := by simpa [Value.ownBlock] using hq
      omega
  · by_cases hroom : n + m ≤ cap
    · have hr := run_append_room (P := P) w t ty e i ht hi g n cap cur hg ad m c news hl hnews h1 hroom (by rw [hl, hcs, ← Nat.add_mul]; exact Nat.mul_le_mul_right _ hroom)
      rw [hrun] at hr
      injection hr with e1 e2
      rw [e1] at hq
      left
      simpa [Value.ownBlock] using hq
    · have hr := run_append_grow (P := P) w t ty e i z ht hi hz ⟨g, 0, none⟩ n cap xs hown.1 (hown.cells (g := g) rfl) ad m c news hl hnews (by omega) (by omega) (growslice_fits (by omega) hbytes)
      rw [hrun] at hr
      injection hr with e1 e2
      rw [e1] at hq
      right
      have : w.heap.size = q := by simpa [Value.ownBlock] using hq
      omega

/-- Where a row lies that came of another one by append. -/
def From (w : World) (v v' : Value) : Prop := ∀ g, v'.ownBlock = some g → v.ownBlock = some g ∨ w.heap.size ≤ g
theorem From.refl (w : World) (v : Value) : From w v v := fun _ h => .inl h
theorem From.apart {w : World} {v v' u : Value} (h : From w v v') (ha : Apart v u) (hu : ∀ g, u.ownBlock = some g → g < w.heap.size) : Apart v' u := by
  intro g h1 h2
  rcases h g h1 with h3 | h3
  · exact ha g h3 h2
  · have := hu g h2
    omega

theorem wp_append_new {o : Oper} {a : Act} {K : Act → World → Prop} {Q : Exit → Act → World → Prop} (s x : Operand) (t : TypeId)
    (ho : o.op = .call { callee := .builtin .append, args := #[s, x], argTypes := #[t, t] })
    (base : Nat) (e : TypeId) (i : TypeInfo) (z : Value) (size bytes : Nat) (ht : P.underlying t = some (.slice e)) (hi : P.info? e = some i) (hz : i.zero = some z)
    (hsize : i.size = size) (hby : i.bytes = bytes) (hzs : z.cells.size = size) (hsz : 0 < size)
    (v : Value) (n : Nat) (xs : List Value) (hs : a.eval s = v) (hown : w.ownsRow base e size v n xs)
    (ad : Option Addr) (m c : Nat) (news : List Value) (hx : a.eval x = .slice ad m c) (hl : news.length = m * size) (hnil : ad = none → m = 0 ∧ c = 0)
    (hnews : ∀ p, ad = some p → ∀ j u, news[j]? = some u → w.cell? (p.add j) = some u) (h1 : ∀ u ∈ news, u.oneCell' = true)
    (h63 : n + m ≤ maxLen) (hbytes : (n + m) * bytes ≤ 140737488355328) (hbase : base ≤ w.heap.size)
    (h : ∀ v' w', w'.ownsRow base e size v' (n + m) (xs ++ news) → w.grownBy w' v.ownBlock → From w v v' → K (a.put o.dst v') w') : o.wp P a w K Q := by
  cases ad with
  | some p =>
    obtain ⟨v', w', hr, h2, h3, h4⟩ := run_append_own (P := P) w base t o.type e i z size bytes ht hi hz hsize hby hzs hsz v n xs hown p m c news hl (hnews p rfl) h1 h63 hbytes hbase
    have h5 := run_append_where base t o.type e i z size bytes ht hi hz hsize hby v n xs hown p m c news hl (hnews p rfl) h1 h63 hbytes hr h4
    unfold Oper.wp execOp
    simp only [ho, resolve, invoke, builtin, Sem.run_bind, Sem.run_pure, Result.andThen_ok, List.map_toArray, List.map_cons, List.map_nil, hs, hx, hr]
    exact h v' w' h2 h3 h5
  | none =>
    obtain ⟨rfl, rfl⟩ := hnil rfl
    have hn : news = [] := List.eq_nil_of_length_eq_zero (by simpa using hl)
    subst hn
    have hrun := run_append_owned_none (P := P) (w := w) base t o.type e i size ht hi v n xs hown
    unfold Oper.wp
    simp [execOp, ho, resolve, invoke, builtin, hs, hx, hrun, Result.andThen]
    exact h v w (by simpa using hown) (World.grownBy.refl _ _) (From.refl w v)
theorem wpList_append_new {ops : Array Oper} {rest : List Oper} {o : Oper} {a : Act} {Q : Exit → Act → World → Prop} (hgd : o.guard = none) (s x : Operand) (t : TypeId)
    (ho : o.op = .call { callee := .builtin .append, args := #[s, x], argTypes := #[t, t] })
    (base : Nat) (e : TypeId) (i : TypeInfo) (z : Value) (size bytes : Nat) (ht : P.underlying t = some (.slice e)) (hi : P.info? e = some i) (hz : i.zero = some z)
    (hsize : i.size = size) (hby : i.bytes = bytes) (hzs : z.cells.size = size) (hsz : 0 < size)
    (v : Value) (n : Nat) (xs : List Value) (hs : a.eval s = v) (hown : w.ownsRow base e size v n xs)
    (ad : Option Addr) (m c : Nat) (news : List Value) (hx : a.eval x = .slice ad m c) (hl : news.length = m * size) (hnil : ad = none → m = 0 ∧ c = 0)
    (hnews : ∀ p, ad = some p → ∀ j u, news[j]? = some u → w.cell? (p.add j) = some u) (h1 : ∀ u ∈ news, u.oneCell' = true)
    (h63 : n + m ≤ maxLen) (hbytes : (n + m) * bytes ≤ 140737488355328) (hbase : base ≤ w.heap.size)
    (h : ∀ v' w', w'.ownsRow base e size v' (n + m) (xs ++ news) → w.grownBy w' v.ownBlock → From w v v' → wpList P ops Q rest (a.put o.dst v') w') : wpList P ops Q (o :: rest) a w :=
  wpList_plain hgd fun _ hK => wp_append_new s x t ho base e i z size bytes ht hi hz hsize hby hzs hsz v n xs hs hown ad m c news hx hl hnil hnews h1 h63 hbytes hbase fun v' w' h2 h3 h4 => hK _ _ (h v' w' h2 h3 h4)
theorem step_append_new {ops : Array Oper} {o : Oper} {a : Act} {K : Act → World → Prop} {Q : Exit → Act → World → Prop} {E : Prop} (hgd : o.guard = none) (s x : Operand) (t : TypeId)
    (ho : o.op = .call { callee := .builtin .append, args := #[s, x], argTypes := #[t, t] })
    (base : Nat) (e : TypeId) (i : TypeInfo) (z : Value) (size bytes : Nat) (ht : P.underlying t = some (.slice e)) (hi : P.info? e = some i) (hz : i.zero = some z)
    (hsize : i.size = size) (hby : i.bytes = bytes) (hzs : z.cells.size = size) (hsz : 0 < size)
    (v : Value) (n : Nat) (xs : List Value) (hs : a.eval s = v) (hown : w.ownsRow base e size v n xs)
    (ad : Option Addr) (m c : Nat) (news : List Value) (hx : a.eval x = .slice ad m c) (hl : news.length = m * size) (hnil : ad = none → m = 0 ∧ c = 0)
    (hnews : ∀ p, ad = some p → ∀ j u, news[j]? = some u → w.cell? (p.add j) = some u) (h1 : ∀ u ∈ news, u.oneCell' = true)
    (h63 : n + m ≤ maxLen) (hbytes : (n + m) * bytes ≤ 140737488355328) (hbase : base ≤ w.heap.size)
    (h : ∀ v' w', w'.ownsRow base e size v' (n + m) (xs ++ news) → w.grownBy w' v.ownBlock → From w v v' → K (a.put o.dst v') w') :
    if Region.wanted o (yielded ops a.tmps) = true then Oper.wp P o a w K Q else E := by
  have hw : Region.wanted o (yielded ops a.tmps) = true := by simp [Region.wanted, hgd]
  rw [if_pos hw]
  exact wp_append_new s x t ho base e i z size bytes ht hi hz hsize hby hzs hsz v n xs hs hown ad m c news hx hl hnil hnews h1 h63 hbytes hbase h
end
end Go.Proofs.YtfefggcfeppeiaaGreat

/- The model's Leaves: the pages reached that are leaves. -/
namespace Go.Proofs.YtfefggcfeppeiaaGreat
open Go.RowKit
attribute [local go_sem ↓] Go.wp_at_zero Go.wp_at_succ

def leavesV (l : List Pg) (root : Int) : List Int := (reachV l root).filter (fun i => (pageAt l i).leaf)
theorem reachV_ok (l : List Pg) (root : Int) : OutOk l (reachV l root) := (walkV_ok l _ root [] ⟨List.nodup_nil, fun z hz => by cases hz⟩).1
theorem own_rowN {k : IntKind} {e : TypeId} {w : World} {base n : Nat} {v : Value} {zs : List Int} (h : Own k e w base v zs) (hl : zs.length = n) : w.ownsRow base e 1 v n (zs.map (Value.int k)) := by subst hl; exact h
theorem filter_more {α : Type} {p : α → Bool} {r : List α} {k : Nat} {y : α} (h : r[k]? = some y) : (r.take (k + 1)).filter p = if p y then (r.take k).filter p ++ [y] else (r.take k).filter p := by
  rw [List.take_add_one, h, List.filter_append]
  cases e : p y <;> simp [e]

set_option maxRecDepth 100000 in
set_option maxHeartbeats 3200000 in
theorem sLeaves_any (root : Int) (a : Option Addr) (n cap : Nat) (ps : List PgV) (w : World) (h : RdP w a n cap ps) (hn : n ≤ 1099511627776) :
    Calls Tryz.prog 19 #[.agg #[.int .i64 root, .slice a n cap]] w (RetI (leavesV (ps.map PgV.pg) root) w) := by
  obtain ⟨i0, hi0, hz0, hz1, hz2⟩ := info_parts Tryz.infoI64
  replace hi0 := Lib.hid hi0
  replace hz0 := Lib.hid hz0
  replace hz1 := Lib.hid hz1
  replace hz2 := Lib.hid hz2
  have HL := Lib.hid h.1.1.1
  have hnc := h.1.1.2.1
  have hm := h.1.1.2.2.1
  unfold maxLen at hm
  obtain ⟨W0, hW0⟩ : ∃ W0, W0 = (w.alloc (.cells #[.int .i64 root, .slice a n cap] 26)).alloc (.cells #[] 3) := ⟨_, rfl⟩
  have b0 : Below w.heap.size w W0 := by subst hW0; exact ((Below.refl _ _).alloc (Nat.le_refl _) _).alloc (by simp) _
  have s0 : W0.heap.size = w.heap.size + 1 + 1 := by subst hW0; simp
  have K0 : Loc W0 w.heap.size #[.int .i64 root, .slice a n cap] := by subst hW0; exact (Loc.new w _ _).alloc _
  have O0 : Own .i64 3 W0 (w.heap.size + 1) (.slice (some ⟨w.heap.size + 1, 0, none⟩) 0 0) [] := by
    subst hW0
    exact own_nil (w.alloc (.cells #[.int .i64 root, .slice a n cap] 26)) 3 1 (w.heap.size + 1) (w.heap.size + 1) (by simp) (Nat.le_refl _)
  have HR := Lib.hid (h.below b0)
  have HRw := Lib.hid h
  have C := Lib.hid (sReach_any root a n cap ps W0 HR.out hn)
  obtain ⟨r, hrr⟩ : ∃ r, reachV (ps.map PgV.pg) root = r := ⟨_, rfl⟩
  have HOK : Hid (OutOk (ps.map PgV.pg) r) := by rw [← hrr]; exact Lib.hid (reachV_ok _ _)
  have hE : leavesV (ps.map PgV.pg) root = r.filter (fun i => (pageAt (ps.map PgV.pg) i).leaf) := by unfold leavesV; rw [hrr]
  rw [hrr] at C
  rw [hE]
  have k0 := K0.2.1 0
  have k1 := K0.2.1 1
  simp at k0 k1
  clear h hE hrr
  go_enter Tryz.func19, Tryz.ntmps19
  go_wp2_with fail
  rw [← hW0]
  clear hW0
  refine C.out.mono ?_
  rintro e w1 ⟨v1, rfl, o1, b1⟩
  obtain ⟨va, vc, rfl, hrd⟩ := Own.rd o1
  have hrl : r.length ≤ n := by
    have h3 := HOK.out.len
    rw [List.length_map, HL.out] at h3
    exact h3
  have K1 := Lib.hid (K0.below b1)
  have B1 := Lib.hid (b0.trans (b1.mono b0.size))
  have RD1 := Lib.hid hrd
  have O1 := Lib.hid (O0.below b1)
  have hq := K1.out.1
  have s1 := b1.size
  have A1 := Lib.hid (own_apart O0 o1 (Nat.le_refl _))
  have OR1 := Lib.hid o1
  clear o1 b1 hrd C K0 k0 k1 b0 HR O0
  have c1 := K1.out.2.1 1
  simp at c1
  go_wp2
  go_loopw [3, 5] (fun v i wr => ∃ (k : Nat) (vo : Option Addr) (co na : Nat) (acc : List Int), k ≤ r.length ∧ v = .slice vo na co ∧ i = .int .i64 (k : Int) ∧ Hid (acc.length = na) ∧ na ≤ k ∧ Hid (acc = (r.take k).filter (fun i => (pageAt (ps.map PgV.pg) i).leaf)) ∧ Hid (Own .i64 3 wr (w.heap.size + 1) (.slice vo na co) acc) ∧ Hid (Own .i64 3 wr W0.heap.size (.slice va r.length vc) r) ∧ Hid (Apart (.slice vo na co) (.slice va r.length vc)) ∧ Hid (Loc wr w.heap.size #[.int .i64 root, .slice a n cap]) ∧ Hid (Below w.heap.size w wr)) (fun _ i _ => r.length - (intOf i).toNat)
  case atStart => exact ⟨0, _, _, 0, [], Nat.zero_le _, rfl, rfl, Lib.hid rfl, Nat.zero_le _, Lib.hid rfl, O1, OR1, A1, K1, B1⟩
  case round =>
    clear O1 OR1 A1 K1 B1 RD1 c1 hq
    obtain ⟨k, vo, co, na, acc, hk, rfl, rfl, HNA, hna, HACC, HO, HOR, HA, HK, HB⟩ := hrel
    have HP := Lib.hid (HRw.out.below HB.out)
    have c1 := HK.out.2.1 1
    simp at c1
    have hq := HK.out.1
    by_cases hlt : k < r.length
    · obtain ⟨rb, roff, hva, hrc⟩ := (rdI_own HOR.out).2 (by omega)
      have rc := hrc k hlt
      have hrb : rb < wr.heap.size := World.block_lt_of_cell? wr ⟨rb, roff + k, none⟩ rc
      obtain ⟨y, hy⟩ : ∃ y, r.getD k 0 = y := ⟨_, rfl⟩
      have hy2 : r[k]? = some y := by
        rw [← hy, List.getD_eq_getElem?_getD, List.getElem?_eq_getElem hlt]
        rfl
      rw [hy] at rc
      have hyr := HOK.out.2 y (List.mem_of_getElem? hy2)
      rw [List.length_map, HL.out] at hyr
      obtain ⟨m, rfl⟩ := Int.eq_ofNat_of_zero_le hyr.1
      have hmn : (m : Int) < n := hyr.2
      obtain ⟨pb, poff, p, hpa, hpl, hp, hprd, d0, d1, d2⟩ := rdP_at HP.out (show m < n by omega)
      have hpg : pageAt (ps.map PgV.pg) m = p.pg := pageAt_yes hp
      have z3 : (k : Int) < r.length := by omega
      have z4 : (0 : Int) ≤ k := by omega
      have z6 : (0 : Int) ≤ m := by omega
      have HF := Lib.hid (filter_more (p := fun i => (pageAt (ps.map PgV.pg) i).leaf) hy2)
      rw [hpg] at HF
      rw [hpa] at c1
      replace hpa := Lib.hid hpa
      subst hva
      clear hp hprd hrc hy hyr hy2 hpg d0 d2
      cases hlf : p.leaf with
      | true =>
        have HF2 : Hid ((r.take (k + 1)).filter (fun i => (pageAt (ps.map PgV.pg) i).leaf) = acc ++ [(m : Int)]) := by
          show _ = _
          rw [HF.out, if_pos (show p.pg.leaf = true from hlf), HACC.out]
        rw [hlf] at d1
        clear hlf HF
        go_wp2_with fail
        go_big_region
        go_wp2_with (at_builtin; refine wpList_append_new rfl (.tmp 25) (.tmp 30) 41 rfl (w.heap.size + 1) 3 i0 (.int .i64 0) 1 8 Tryz.underlying41 hi0.out hz0.out hz1.out hz2.out rfl (by decide) (.slice vo na co) na (acc.map (Value.int .i64)) rfl (World.ownsRow.alloc (own_rowN (HO.out.below (drew_below _)) HNA.out) _) (some ⟨wr.heap.size, 0, none⟩) 1 1 [.int .i64 (m : Int)] rfl rfl (fun h => by cases h) ?_ (ints_oneCell .i64 [(m : Int)]) ?_ ?_ ?_ ?_)
        case refine_1 =>
          intro q hq
          cases hq
          exact World.news_of_block (cs := #[.int .i64 (m : Int)]) (t := 3) (fr := (0, 0)) (heap_alloc_new wr.drew _)
        case refine_2 => unfold maxLen; omega
        case refine_3 => omega
        case refine_4 => simp; omega
        intro v3 w3 o3 g3 f3
        obtain ⟨a3, c3, rfl⟩ := owns_shape o3
        have b2 := (drew_below wr).trans (new_below wr.drew (.cells #[.int .i64 (m : Int)] 3))
        have HOR2 := HOR.out.below b2
        have HA3 := Lib.hid (From.apart f3 HA.out (fun g hg => (World.ownsRow.lt HOR2 g hg).2))
        have HOR3 := Lib.hid (HOR2.keptApart g3 HA.out.symm)
        have HK3 := Lib.hid ((HK.out.below b2).grown g3 (fun j hj => by have := (World.ownsRow.lt HO.out j hj).1; omega))
        have HB3 := Lib.hid ((HB.out.drew.alloc HB.out.drew.size (.cells #[.int .i64 (m : Int)] 3)).grown g3 (by have := HB.out.drew.size; simp; omega) (fun j hj => by have := (World.ownsRow.lt HO.out j hj).1; omega))
        have HO3 : Hid (Own .i64 3 w3 (w.heap.size + 1) (.slice a3 (na + 1) c3) (acc ++ [(m : Int)])) := by
          have := o3
          unfold Own
          rw [List.length_append, HNA.out, List.map_append]
          exact Lib.hid this
        have HN3 : Hid ((acc ++ [(m : Int)]).length = na + 1) := by
          show _ = _
          rw [List.length_append, HNA.out]
          rfl
        have HF3 := Lib.hid HF2.out.symm
        clear o3 g3 f3 b2 HOR2 HF2
        go_wp2
        go_roundw
        case rel => exact ⟨k + 1, a3, c3, na + 1, _, by omega, rfl, by go_num, HN3, by omega, HF3, HO3, HOR3, HA3, HK3, HB3⟩
        case measure => simp [intOf]; omega
      | false =>
        have HF2 : Hid (acc = (r.take (k + 1)).filter (fun i => (pageAt (ps.map PgV.pg) i).leaf)) := by
          show _ = _
          rw [HF.out, if_neg (by rw [show p.pg.leaf = p.leaf from rfl, hlf]; exact Bool.false_ne_true), HACC.out]
        rw [hlf] at d1
        clear hlf HF
        go_wp2_with fail
        go_big_region
        go_wp2
        go_roundw
        case rel => exact ⟨k + 1, vo, co, na, acc, by omega, rfl, by go_num, HNA, by omega, HF2, Lib.hid (HO.out.below (drew_below _)), Lib.hid (HOR.out.below (drew_below _)), HA, Lib.hid HK.out.drew, Lib.hid HB.out.drew⟩
        case measure => simp [intOf]; omega
    · obtain rfl : k = r.length := by omega
      have hall : Hid (acc = r.filter (fun i => (pageAt (ps.map PgV.pg) i).leaf)) := by
        have := HACC.out
        rw [List.take_length] at this
        exact Lib.hid this
      go_wp2
      go_ret
      rw [← hall.out]
      exact ⟨_, rfl, HO.out.mono (by omega), HB.out⟩
end Go.Proofs.YtfefggcfeppeiaaGreat

/- The model's ItemsOf: the entries of a leaf as items; of an inner node none. -/
namespace Go.Proofs.YtfefggcfeppeiaaGreat
open Go.RowKit
attribute [local go_sem ↓] Go.wp_at_zero Go.wp_at_succ

set_option maxHeartbeats 3200000 in
set_option maxRecDepth 100000 in
theorem sItemsOf_leaf (a : Option Addr) (n cap : Nat) (xs : List It) (w : World) (h : RdS itLay w a n cap xs) (hn : n ≤ 1099511627776) :
    Calls Tryz.prog 40 #[.agg #[.bool true, .slice a n cap]] w (NewItems xs w) := by
  obtain ⟨i0, hi, hz0, hz1, hz2⟩ := info_parts Tryz.infoItem
  replace hi := Lib.hid hi
  replace hz0 := Lib.hid hz0
  replace hz1 := Lib.hid hz1
  replace hz2 := Lib.hid hz2
  have hm := h.1.2.2.1
  have hnc := h.1.2.1
  unfold maxLen at hm
  have HR := Lib.hid h
  have HL := Lib.hid h.1.1
  clear h
  have K := Lib.hid (blk_alloc (.cells #[] 47) (by simp) _ _ (blk_new w #[.bool true, .slice a n cap] 59))
  have B0 : Below w.heap.size w ((w.alloc (.cells #[.bool true, .slice a n cap] 59)).alloc (.cells #[] 47)) := ((Below.refl _ _).alloc (Nat.le_refl _) _).alloc (by simp) _
  have O0 := Lib.hid (own_nil (w.alloc (.cells #[.bool true, .slice a n cap] 59)) 47 5 (w.heap.size + 1) (w.heap.size + 1) (by simp) (Nat.le_refl _))
  go_enter Tryz.func40, Tryz.ntmps40
  go_wp2
  go_loopw [3, 4] (fun v i wr => ∃ (k : Nat) (va : Option Addr) (vc : Nat), k ≤ n ∧ v = .slice va k vc ∧ i = .int .i64 (k : Int) ∧ (∀ o, wr.cell? ⟨w.heap.size, o, none⟩ = #[Value.bool true, .slice a n cap][o]?) ∧ OwnS itLay 47 wr (w.heap.size + 1) (.slice va k vc) (xs.take k) ∧ Below w.heap.size w wr ∧ w.heap.size + 1 ≤ wr.heap.size) (fun _ i _ => n - (intOf i).toNat)
  case atStart => exact ⟨0, _, _, Nat.zero_le _, rfl, rfl, K.out.1, O0.out, B0, by simp⟩
  case round =>
    obtain ⟨k, va, vc, hk, rfl, rfl, k0, ho, hB, hS⟩ := hrel
    have htl : (xs.take k).length = k := by rw [List.length_take, HL.out]; omega
    have ho' : wr.ownsRow (w.heap.size + 1) 47 5 (.slice va k vc) k ((xs.take k).flatMap itLay.cells) := by
      have := ho
      unfold OwnS at this
      rw [htl] at this
      exact this
    have c0 := k0 0
    have c1 := k0 1
    simp at c0 c1
    by_cases hlt : k < n
    · obtain ⟨b, off, x, rfl, hbl, hx, d0, d1, d2, d3, d4⟩ := rdIt_at (HR.out.below hB) hlt
      have HX := Lib.hid hx
      have HO := Lib.hid ho'
      have hrow : ∀ j, (Value.slice va k vc).ownBlock = some j → w.heap.size + 1 ≤ j := fun j hj => (HO.out.lt j hj).1
      have hvb : b < w.heap.size := HR.out.lt (by omega) rfl
      have z0 : (0 : Int) ≤ k := by omega
      have z1 : (k : Int) < n := by omega
      have htk := Lib.hid htl
      have KB : ∀ V : World, (∀ q o, q < w.heap.size + 1 → V.cell? ⟨q, o, none⟩ = wr.cell? ⟨q, o, none⟩) → V.cell? ⟨w.heap.size, 1, none⟩ = some (.slice (some ⟨b, off, none⟩) n cap) ∧ V.cell? ⟨b, off + k * 5, none⟩ = some (.int .i64 x.id) ∧ V.cell? ⟨b, off + k * 5 + 1, none⟩ = some (.int .i64 x.x0) ∧ V.cell? ⟨b, off + k * 5 + 1 + 1, none⟩ = some (.int .i64 x.y0) ∧ V.cell? ⟨b, off + k * 5 + 1 + 2, none⟩ = some (.int .i64 x.x1) ∧ V.cell? ⟨b, off + k * 5 + 1 + 3, none⟩ = some (.int .i64 x.y1) := fun V hV =>
        ⟨(hV _ _ (by omega)).trans c1, (hV _ _ (by omega)).trans d0, (hV _ _ (by omega)).trans d1, (hV _ _ (by omega)).trans d2, (hV _ _ (by omega)).trans d3, (hV _ _ (by omega)).trans d4⟩
      clear hx ho ho' htl
      go_wp2_with fail
      go_region_held3 (fun V => V.cell? ⟨w.heap.size, 1, none⟩ = some (.slice (some ⟨b, off, none⟩) n cap) ∧ V.cell? ⟨b, off + k * 5, none⟩ = some (.int .i64 x.id) ∧ V.cell? ⟨b, off + k * 5 + 1, none⟩ = some (.int .i64 x.x0) ∧ V.cell? ⟨b, off + k * 5 + 1 + 1, none⟩ = some (.int .i64 x.y0) ∧ V.cell? ⟨b, off + k * 5 + 1 + 2, none⟩ = some (.int .i64 x.x1) ∧ V.cell? ⟨b, off + k * 5 + 1 + 3, none⟩ = some (.int .i64 x.y1))
        (first | exact KB _ (fun _ _ _ => rfl) | exact KB _ (fun q o hq => World.cell?_alloc_lt _ _ ⟨q, o, none⟩ (by show q < wr.heap.size; omega)) | exact KB _ (fun q o hq => app_cell g2 hrow (fo := fun o => wr.cell? ⟨q, o, none⟩) (fun _ => rfl) (by omega) (by omega) o))
        (first
          | ((refine step_append_src rfl (.tmp 17) (.tmp 31) 31 rfl (w.heap.size + 1) 47 i0 _ 5 40 Tryz.underlying31 hi.out hz0.out hz1.out hz2.out rfl (by decide) (.slice va k vc) k ((xs.take k).flatMap itLay.cells) rfl (World.ownsRow.drew (World.ownsRow.alloc HO.out (.cells #[.int .i64 x.id, .int .i64 x.x0, .int .i64 x.y0, .int .i64 x.x1, .int .i64 x.y1] 47))) (some ⟨wr.heap.size, 0, none⟩) 1 1 (itLay.cells x) rfl rfl (fun h => by cases h) (fun p hp => by cases hp; exact World.news_of_block (cs := #[.int .i64 x.id, .int .i64 x.x0, .int .i64 x.y0, .int .i64 x.x1, .int .i64 x.y1]) (t := 47) (fr := (0, 0)) (heap_alloc_new wr _)) (itLay.one x) (by unfold maxLen; omega) (by omega) (by simp; omega) ?_); intro v2 w2 o2 g2; obtain ⟨ra, rc, rfl⟩ := owns_shape o2))
      all_goals
        have O3 := Lib.hid (ownS_more HX.out (by rw [htk.out]; exact o2))
        have B3 := Lib.hid (((hB.alloc (by omega) (.cells #[.int .i64 x.id, .int .i64 x.x0, .int .i64 x.y0, .int .i64 x.x1, .int .i64 x.y1] 47)).drew).grown g2 (by simp; omega) (fun j hj => by have := hrow j hj; omega))
        have c2 := app_cell g2 hrow k0 hS
        have S3 := g2.size
        simp at S3
        clear o2
        go_wp2
        go_roundw
        case rel => exact ⟨k + 1, ra, rc, by omega, rfl, by go_num, c2, O3.out, B3.out, by omega⟩
        case measure => simp [intOf]; omega
    · obtain rfl : k = n := by omega
      have hall : xs.take k = xs := List.take_of_length_le (by rw [HL.out]; exact Nat.le_refl _)
      have HO := Lib.hid ho
      rw [hall] at HO
      clear ho ho' htl hall
      go_wp2_with fail
      go_ret
      exact ⟨_, rfl, OwnS.mono (L := itLay) (base' := w.heap.size + 1) HO.out (by omega), hB⟩

set_option maxRecDepth 100000 in
set_option maxHeartbeats 800000 in
theorem sItemsOf_inner (a : Option Addr) (n cap : Nat) (w : World) :
    Calls Tryz.prog 40 #[.agg #[.bool false, .slice a n cap]] w (NewItems [] w) := by
  have K := (blk_alloc (.cells #[] 47) (by simp) _ _ (blk_new w #[.bool false, .slice a n cap] 59)).1
  have B0 : Below w.heap.size w ((w.alloc (.cells #[.bool false, .slice a n cap] 59)).alloc (.cells #[] 47)) := ((Below.refl _ _).alloc (Nat.le_refl _) _).alloc (by simp) _
  have O0 := Lib.hid (own_nil (w.alloc (.cells #[.bool false, .slice a n cap] 59)) 47 5 w.heap.size (w.heap.size + 1) (by simp) (by omega))
  go_enter Tryz.func40, Tryz.ntmps40
  go_wp2
  go_loopw [3, 4] (fun v i wr => v = .slice (some ⟨w.heap.size + 1, 0, none⟩) 0 0 ∧ i = .int .i64 0 ∧ wr = (w.alloc (.cells #[.bool false, .slice a n cap] 59)).alloc (.cells #[] 47)) (fun _ _ _ => 0)
  case atStart => exact ⟨rfl, rfl, rfl⟩
  case round =>
    obtain ⟨rfl, rfl, rfl⟩ := hrel
    by_cases h0 : (0 : Int) < n
    · go_wp2_with fail
      go_ret
      exact ⟨_, rfl, O0.out, B0⟩
    · go_wp2_with fail
      go_ret
      exact ⟨_, rfl, O0.out, B0⟩
end Go.Proofs.YtfefggcfeppeiaaGreat

/- The join of all rectangles of a slice: the program's and the model's functions. -/
namespace Go.Proofs.YtfefggcfeppeiaaGreat
open Go.RowKit

def joinB (a b : Bx) : Bx := ⟨lst a.x0 b.x0, lst a.y0 b.y0, mst a.x1 b.x1, mst a.y1 b.y1⟩
def joinAll : List Bx → Bx
  | [] => ⟨0, 0, 0, 0⟩
  | b :: l => l.foldl joinB b
theorem joinAll_snoc (l : List Bx) (x : Bx) (h : l ≠ []) : joinAll (l ++ [x]) = joinB (joinAll l) x := by
  cases l with
  | nil => exact absurd rfl h
  | cons b l => simp [joinAll, List.foldl_append]
theorem joinAll_take (xs : List Bx) (k : Nat) (x : Bx) (hk : 1 ≤ k) (hx : xs[k]? = some x) : joinAll (xs.take (k + 1)) = joinB (joinAll (xs.take k)) x := by
  obtain ⟨hlt, rfl⟩ := List.getElem?_eq_some_iff.1 hx
  rw [List.take_succ_eq_append_getElem hlt]
  exact joinAll_snoc _ _ (by intro h; have := congrArg List.length h; simp only [List.length_take, List.length_nil] at this; omega)
theorem joinAll_one (xs : List Bx) (x : Bx) (hx : xs[0]? = some x) : joinAll (xs.take 1) = x := by
  cases xs with
  | nil => simp at hx
  | cons b l => simp at hx; subst hx; rfl

/-- A rectangle is handed back. -/
def RetBox (b : Bx) (w : World) (e : Ending) (w' : World) : Prop := e = .returned (.agg #[.int .i64 b.x0, .int .i64 b.y0, .int .i64 b.x1, .int .i64 b.y1]) ∧ Below w.heap.size w w'

/-- In the middle of the loop: the result's block is untouched; the variable's block holds b. -/
def Mid (w wr : World) (b : Bx) : Prop :=
  (Below w.heap.size w wr ∧ w.heap.size + 2 ≤ wr.heap.size) ∧
  ((∀ o, wr.cell? ⟨w.heap.size, o, none⟩ = #[Value.int .i64 0, .int .i64 0, .int .i64 0, .int .i64 0][o]?) ∧ (∀ o, wr.frozen? ⟨w.heap.size, o, none⟩ = false)) ∧
  ((∀ o, wr.cell? ⟨w.heap.size + 1, o, none⟩ = #[Value.int .i64 b.x0, .int .i64 b.y0, .int .i64 b.x1, .int .i64 b.y1][o]?) ∧ (∀ o, wr.frozen? ⟨w.heap.size + 1, o, none⟩ = false))
theorem mid_start (w : World) (b : Bx) (t : TypeId) : Mid w ((w.alloc (.cells #[.int .i64 0, .int .i64 0, .int .i64 0, .int .i64 0] t)).alloc (.cells #[.int .i64 b.x0, .int .i64 b.y0, .int .i64 b.x1, .int .i64 b.y1] t)) b :=
  ⟨⟨((new_below w _).trans ((new_below _ _).mono (show w.heap.size ≤ _ by simp))), by simp⟩, blk_alloc _ (by simp) _ _ (blk_new w _ t), blk_new1 w _ _ t⟩
/-- A block of four cells is written whole. -/
theorem blk_write {W : World} {b : Nat} {x y z u : Value} {x' y' z' u' : Value} (hk : (∀ o, W.cell? ⟨b, o, none⟩ = #[x, y, z, u][o]?) ∧ (∀ o, W.frozen? ⟨b, o, none⟩ = false)) :
    (∀ o, ((((W.setCell ⟨b, 0, none⟩ x').setCell ⟨b, 1, none⟩ y').setCell ⟨b, 2, none⟩ z').setCell ⟨b, 3, none⟩ u').cell? ⟨b, o, none⟩ = #[x', y', z', u'][o]?) ∧
    (∀ o, ((((W.setCell ⟨b, 0, none⟩ x').setCell ⟨b, 1, none⟩ y').setCell ⟨b, 2, none⟩ z').setCell ⟨b, 3, none⟩ u').frozen? ⟨b, o, none⟩ = false) := by
  refine ⟨fun o => ?_, fun o => ?_⟩
  · have h0 := hk.1 0; have h1 := hk.1 1; have h2 := hk.1 2; have h3 := hk.1 3; have ho := hk.1 o
    match o, ho with
    | 0, _ => simp [go_sem, h0]
    | 1, _ => simp [go_sem, h1]
    | 2, _ => simp [go_sem, h2]
    | 3, _ => simp [go_sem, h3]
    | o + 4, ho =>
      rw [World.cell?_setCell_other _ _ _ _ (by simp), World.cell?_setCell_other _ _ _ _ (by simp), World.cell?_setCell_other _ _ _ _ (by simp), World.cell?_setCell_other _ _ _ _ (by simp), ho]
      simp
  · have := hk.2 o
    simp [go_sem, this]
theorem blk_far {W : World} {b p j : Nat} {u : Value} (h : b ≠ p) (f : Nat → Option Value) (m : Nat → Bool) (hk : (∀ o, W.cell? ⟨b, o, none⟩ = f o) ∧ (∀ o, W.frozen? ⟨b, o, none⟩ = m o)) :
    (∀ o, (W.setCell ⟨p, j, none⟩ u).cell? ⟨b, o, none⟩ = f o) ∧ (∀ o, (W.setCell ⟨p, j, none⟩ u).frozen? ⟨b, o, none⟩ = m o) :=
  ⟨fun o => (World.cell?_setCell_far _ _ _ _ (fun e => h e.symm)).trans (hk.1 o), fun o => by have := hk.2 o; simpa [go_sem] using this⟩
/-- A round: a callee that makes memory alone, then the variable is written. -/
theorem mid_step {w W wr : World} {b b' : Bx} (h : Mid w W b) (hj : Below W.heap.size W wr) :
    Mid w ((((wr.setCell ⟨w.heap.size + 1, 0, none⟩ (.int .i64 b'.x0)).setCell ⟨w.heap.size + 1, 1, none⟩ (.int .i64 b'.y0)).setCell ⟨w.heap.size + 1, 2, none⟩ (.int .i64 b'.x1)).setCell ⟨w.heap.size + 1, 3, none⟩ (.int .i64 b'.y1)) b' := by
  obtain ⟨⟨hB, hz⟩, h0, h1⟩ := h
  have hs := hj.size
  have k0 := below_keep hj (show w.heap.size < _ by omega) _ _ h0
  have k1 := below_keep hj (show w.heap.size + 1 < _ by omega) _ _ h1
  refine ⟨⟨((((hB.trans (hj.mono (by omega))).setCell (p := ⟨w.heap.size + 1, 0, none⟩) (Nat.le_succ _) _).setCell (p := ⟨w.heap.size + 1, 1, none⟩) (Nat.le_succ _) _).setCell (p := ⟨w.heap.size + 1, 2, none⟩) (Nat.le_succ _) _).setCell (p := ⟨w.heap.size + 1, 3, none⟩) (Nat.le_succ _) _, by simp; omega⟩, ?_, blk_write k1⟩
  exact blk_far (by omega) _ _ (blk_far (by omega) _ _ (blk_far (by omega) _ _ (blk_far (by omega) _ _ k0)))
theorem mid_alloc {w W : World} {b : Bx} (h : Mid w W b) (O : Obj) : Mid w (W.alloc O) b :=
  ⟨⟨h.1.1.trans ((new_below W O).mono h.1.1.size), by have := h.1.2; simp; omega⟩, blk_alloc O (by have := h.1.2; omega) _ _ h.2.1, blk_alloc O (by have := h.1.2; omega) _ _ h.2.2⟩
theorem mid_drew {w W : World} {b : Bx} (h : Mid w W b) : Mid w W.drew b := ⟨⟨h.1.1.drew, h.1.2⟩, h.2⟩

set_option maxRecDepth 100000 in
set_option maxHeartbeats 800000 in
theorem sJoinAll_any (a : Option Addr) (n cap : Nat) (xs : List Bx) (w : World) (h : RdS bxLay w a n cap xs) :
    Calls Tryz.prog 98 #[.slice a n cap] w (RetBox (joinAll xs) w) := by
  have hm := h.1.2.2.1
  have hnc := h.1.2.1
  unfold maxLen at hm
  have HR := Lib.hid h
  have HL := Lib.hid h.1.1
  clear h
  by_cases h0 : n = 0
  · subst h0
    have hx : Hid (xs = []) := List.eq_nil_of_length_eq_zero HL.out
    go_enter Tryz.func98, Tryz.ntmps98
    go_wp2
    refine bodyPost_ret (v := .agg #[.int .i64 0, .int .i64 0, .int .i64 0, .int .i64 0]) (by simp [results, Tryz.results98, go_sem]) rfl ⟨by rw [hx.out]; rfl, ?_⟩
    exact (Below.refl _ _).alloc (Nat.le_refl _) _
  · have hd : ((n : Int) == 0) = false := by rw [beq_eq_false_iff_ne]; omega
    obtain ⟨b, off, x, rfl, hlt, hx, c0, c1, c2, c3⟩ := rdBx_at HR.out (i := 0) (by omega)
    simp only [Nat.zero_mul, Nat.add_zero] at c0 c1 c2 c3
    have hX := Lib.hid hx
    have hpos : (0 : Int) < n := by omega
    have hw : b ≠ w.heap.size := by omega
    clear hx
    go_enter Tryz.func98, Tryz.ntmps98
    go_wp2
    go_loopw [4] (fun i wr => ∃ k : Nat, 1 ≤ k ∧ k ≤ n ∧ i = .int .i64 k ∧ Mid w wr (joinAll (xs.take k))) (fun i _ => n - (intOf i).toNat)
    case atStart =>
      refine ⟨1, Nat.le_refl _, by omega, rfl, ?_⟩
      rw [joinAll_one xs x hX.out]
      exact mid_start w x _
    case round =>
      obtain ⟨k, hk1, hkn, rfl, hM⟩ := hrel
      obtain ⟨y, hy⟩ : ∃ y, y = joinAll (xs.take k) := ⟨_, rfl⟩
      rw [← hy] at hM
      have HY := Lib.hid hy
      have HM := Lib.hid hM
      obtain ⟨⟨hB, hz⟩, ⟨k0, f0⟩, k1, f1⟩ := hM
      clear hy c0 c1 c2 c3
      by_cases hlt : k < n
      · obtain ⟨b', off', x', e, hlt', hx', d0, d1, d2, d3⟩ := rdBx_at (HR.out.below hB) hlt
        obtain ⟨rfl, rfl⟩ : b' = b ∧ off' = off := by simpa using e.symm
        have hstep := Lib.hid (joinAll_take xs k x' hk1 hx')
        clear e hx'
        have i0 : (0 : Int) ≤ k := by omega
        have i1 : (k : Int) < n := by omega
        go_wp2
        go_region_with ((with_reducible refine (sJoin_any _ _ _ _ _ _ _ _ _).mono ?_); rintro e w1 ⟨rfl, hj⟩; have q1 := below_keep hj (show w.heap.size + 1 < _ by show _ < wr.heap.size; omega) _ _ ⟨k1, f1⟩)
        all_goals
          go_wp2
          go_roundw
          case rel =>
            refine ⟨k + 1, by omega, by omega, by go_num, ?_⟩
            rw [hstep.out, ← HY.out]
            exact mid_step (b' := joinB y x') (mid_drew HM.out) hj
          case measure => simp [intOf]; omega
      · have hy : Hid (y = joinAll xs) := by
          have h1 := HL.out
          have h2 := HY.out
          rw [List.take_of_length_le (by omega)] at h2
          exact h2
        go_wp2
        refine bodyPost_ret (v := .agg #[.int .i64 y.x0, .int .i64 y.y0, .int .i64 y.x1, .int .i64 y.y1]) (by simp [results, Tryz.results98, go_sem, k0]) rfl ⟨by rw [← hy.out], ?_⟩
        exact (((hB.setCell (p := ⟨w.heap.size, 0, none⟩) (Nat.le_refl _) _).setCell (p := ⟨w.heap.size, 1, none⟩) (Nat.le_refl _) _).setCell (p := ⟨w.heap.size, 2, none⟩) (Nat.le_refl _) _).setCell (p := ⟨w.heap.size, 3, none⟩) (Nat.le_refl _) _

end Go.Proofs.YtfefggcfeppeiaaGreat

/- The laws' own helpers on slices of rectangles: how many, a copy, equality. -/
namespace Go.Proofs.YtfefggcfeppeiaaGreat
open Go.RowKit

theorem Tryz.infoBox : (Tryz.prog.info? 28).map (fun i => (i.zero, i.size, i.bytes)) = some (some (.agg #[.int .i64 0, .int .i64 0, .int .i64 0, .int .i64 0]), 4, 32) := by kernel_rfl

def zeroBx : Bx := ⟨0, 0, 0, 0⟩
/-- The first k of xs, then zeros, n in all. -/
def copiedB (xs : List Bx) (n k : Nat) : List Bx := gen n fun j => if j < k then xs.getD j zeroBx else zeroBx
theorem copiedB_set (xs : List Bx) (n k : Nat) (x : Bx) (hx : xs[k]? = some x) : copiedB xs n (k + 1) = (copiedB xs n k).set k x := by
  unfold copiedB
  rw [gen_set]
  refine gen_congr n _ _ fun j _ => ?_
  by_cases h : j = k
  · subst h; simp [List.getD, hx]
  · rw [if_neg h]
    by_cases h' : j < k
    · rw [if_pos h', if_pos (by omega)]
    · rw [if_neg h', if_neg (by omega)]
theorem copiedB_start (xs : List Bx) (n : Nat) : copiedB xs n 0 = List.replicate n zeroBx := by
  unfold copiedB gen
  simp [List.map_const']
theorem copiedB_end (xs : List Bx) (n : Nat) (h : xs.length = n) : copiedB xs n n = xs := by
  rw [← gen_list xs zeroBx n h]
  unfold copiedB
  refine gen_congr n _ _ fun j hj => ?_
  rw [if_pos hj, gen_list xs zeroBx n h]
theorem copiedB_len (xs : List Bx) (n k : Nat) : (copiedB xs n k).length = n := gen_length _ _

/-- One element is written: its four cells, one by one. -/
theorem flat_setB (xs : List Bx) (k : Nat) (x : Bx) (hk : k < xs.length) :
    ((((xs.flatMap bxLay.cells).set (k * 4) (.int .i64 x.x0)).set (k * 4 + 1) (.int .i64 x.y0)).set (k * 4 + 2) (.int .i64 x.x1)).set (k * 4 + 3) (.int .i64 x.y1) = (xs.set k x).flatMap bxLay.cells := by
  induction xs generalizing k with
  | nil => simp at hk
  | cons y l ih =>
    cases k with
    | zero => simp [bxLay, List.flatMap_cons]
    | succ k =>
      have := ih k (by simpa using hk)
      simp only [List.flatMap_cons, List.set_cons_succ]
      rw [← this]
      have e : ∀ (j : Nat) (u : Value) (t : List Value), (bxLay.cells y ++ t).set ((k + 1) * 4 + j) u = bxLay.cells y ++ t.set (k * 4 + j) u := by
        intro j u t
        rw [List.set_append_right _ _ (by show 4 ≤ _; omega)]
        show bxLay.cells y ++ t.set ((k + 1) * 4 + j - 4) u = _
        rw [show (k + 1) * 4 + j - 4 = k * 4 + j by omega]
      have e0 := e 0
      simp only [Nat.add_zero] at e0
      rw [e0, e 1, e 2, e 3]

theorem madeB (n : Nat) : (madeCells #[Value.int .i64 0, .int .i64 0, .int .i64 0, .int .i64 0] (n * 4)).toList = (List.replicate n zeroBx).flatMap bxLay.cells := by
  apply List.ext_getElem?
  intro j
  have hr := Nat.div_add_mod j 4
  have hlt := Nat.mod_lt j (show 0 < 4 by omega)
  have hf := flat_at bxLay (List.replicate n zeroBx) (j / 4) (j % 4) hlt
  rw [show j / 4 * bxLay.sz + j % 4 = j by show j / 4 * 4 + j % 4 = j; omega] at hf
  rw [hf]
  by_cases hj : j < n * 4
  · have h4 : j / 4 < n := by omega
    rw [List.getElem?_replicate, if_pos h4]
    simp only [Option.bind_some]
    rcases (by omega : j % 4 = 0 ∨ j % 4 = 1 ∨ j % 4 = 2 ∨ j % 4 = 3) with h | h | h | h <;> simp [madeCells, hj, h, bxLay, zeroBx]
  · have h4 : ¬ j / 4 < n := by omega
    rw [List.getElem?_replicate, if_neg h4]
    simp [madeCells, hj]

/-- An owned rectangle's four cells. -/
theorem ownBx_at {w : World} {base : Nat} {e : TypeId} {g n cap i : Nat} {xs : List Bx} (h : w.ownsRow base e bxLay.sz (.slice (some ⟨g, 0, none⟩) n cap) n (xs.flatMap bxLay.cells)) (hl : xs.length = n) (hi : i < n) :
    ∃ x : Bx, w.cell? ⟨g, i * 4, none⟩ = some (.int .i64 x.x0) ∧ w.cell? ⟨g, i * 4 + 1, none⟩ = some (.int .i64 x.y0) ∧ w.cell? ⟨g, i * 4 + 2, none⟩ = some (.int .i64 x.x1) ∧ w.cell? ⟨g, i * 4 + 3, none⟩ = some (.int .i64 x.y1) := by
  subst hl
  obtain ⟨a, c, hv, hr⟩ := OwnS.rd (L := bxLay) (e := e) (xs := xs) h
  obtain ⟨b, off, x, e1, _, _, d0, d1, d2, d3⟩ := rdBx_at hr hi
  simp only [Value.slice.injEq] at hv
  obtain ⟨rfl, -, rfl⟩ := hv
  obtain ⟨rfl, rfl⟩ : g = b ∧ 0 = off := by simpa using e1
  simp only [Nat.zero_add] at d0 d1 d2 d3
  exact ⟨x, d0, d1, d2, d3⟩

/-- A slice of rectangles in new memory. -/
def NewBoxes (xs : List Bx) (w : World) (e : Ending) (w' : World) : Prop := ∃ v, e = .returned v ∧ OwnS bxLay 28 w' w.heap.size v xs ∧ Below w.heap.size w w'

theorem boxEq_false {a b : Bx} (h : a ≠ b) : boxEq a.x0 a.y0 a.x1 a.y1 b.x0 b.y0 b.x1 b.y1 = false := by
  rw [Bool.eq_false_iff]
  intro h'
  obtain ⟨h0, h1, h2, h3⟩ := (boxEq_iff _ _ _ _ _ _ _ _).1 h'
  exact h (by cases a; cases b; simp_all)

end Go.Proofs.YtfefggcfeppeiaaGreat

/- The model's BoundOf: the join of all rectangles of a node's entries. -/
namespace Go.Proofs.YtfefggcfeppeiaaGreat
open Go.RowKit

def boxOf (x : It) : Bx := ⟨x.x0, x.y0, x.x1, x.y1⟩
theorem ownB_nil (w : World) (base g : Nat) (hg : w.heap.size = g) (hb : base ≤ g) : OwnS bxLay 28 (w.alloc (.cells #[] 28)) base (.slice (some ⟨g, 0, none⟩) 0 0) [] := own_nil w 28 4 base g hg hb
theorem ownB_more {w : World} {e : TypeId} {base : Nat} {v : Value} {bs : List Bx} {y : Bx} {k : Nat} (hx : bs[k]? = some y) (hl : (bs.take k).length = k) (h : w.ownsRow base e 4 v (k + 1) ((bs.take k).flatMap bxLay.cells ++ bxLay.cells y)) : OwnS bxLay e w base v (bs.take (k + 1)) := by
  show w.ownsRow base e 4 v _ _
  rw [List.take_add_one, hx, List.length_append, List.flatMap_append, hl]
  simpa using h
theorem boxes_at {xs : List It} {k : Nat} {x : It} (h : xs[k]? = some x) : (xs.map boxOf)[k]? = some (boxOf x) := by rw [List.getElem?_map, h]; rfl

set_option maxHeartbeats 3200000 in
set_option maxRecDepth 100000 in
theorem sBoundOf_any (c : Bool) (a : Option Addr) (n cap : Nat) (xs : List It) (w : World) (h : RdS itLay w a n cap xs) (hn : n ≤ 1099511627776) :
    Calls Tryz.prog 90 #[.agg #[.bool c, .slice a n cap]] w (RetBox (joinAll (xs.map boxOf)) w) := by
  obtain ⟨i0, hi, hz0, hz1, hz2⟩ := info_parts Tryz.infoBox
  replace hz2 := Lib.hid hz2
  have hm := h.1.2.2.1
  have hnc := h.1.2.1
  unfold maxLen at hm
  have HR := Lib.hid h
  have HL := Lib.hid h.1.1
  obtain ⟨bs, hbs⟩ : ∃ bs, xs.map boxOf = bs := ⟨_, rfl⟩
  have HB := Lib.hid (fun k x (hx : xs[k]? = some x) => (hbs ▸ boxes_at hx : bs[k]? = some (boxOf x)))
  have HM := Lib.hid (show bs.length = n by rw [← hbs, List.length_map, h.1.1])
  rw [hbs]
  clear h hbs
  have K := Lib.hid (blk_alloc (.cells #[] 28) (by simp; omega) _ _ (blk_alloc (.cells #[.int .i64 0, .int .i64 0, .int .i64 0, .int .i64 0] 28) (by simp) _ _ (blk_new w #[.bool c, .slice a n cap] 59)))
  have J := Lib.hid (blk_alloc (.cells #[] 28) (by simp) _ _ (blk_new1 w (.cells #[.bool c, .slice a n cap] 59) #[.int .i64 0, .int .i64 0, .int .i64 0, .int .i64 0] 28))
  have B0 : Below w.heap.size w (((w.alloc (.cells #[.bool c, .slice a n cap] 59)).alloc (.cells #[.int .i64 0, .int .i64 0, .int .i64 0, .int .i64 0] 28)).alloc (.cells #[] 28)) := (((Below.refl _ _).alloc (Nat.le_refl _) _).alloc (by simp) _).alloc (by simp; omega) _
  have O0 := Lib.hid (ownB_nil ((w.alloc (.cells #[.bool c, .slice a n cap] 59)).alloc (.cells #[.int .i64 0, .int .i64 0, .int .i64 0, .int .i64 0] 28)) (w.heap.size + 2) (w.heap.size + 2) (by simp) (Nat.le_refl _))
  go_enter Tryz.func90, Tryz.ntmps90
  go_wp2
  go_loopw [3, 4] (fun v i wr => ∃ (k : Nat) (va : Option Addr) (vc : Nat), k ≤ n ∧ v = .slice va k vc ∧ i = .int .i64 (k : Int) ∧ (∀ o, wr.cell? ⟨w.heap.size, o, none⟩ = #[Value.bool c, .slice a n cap][o]?) ∧ (∀ o, wr.cell? ⟨w.heap.size + 1, o, none⟩ = (#[.int .i64 0, .int .i64 0, .int .i64 0, .int .i64 0] : Array Value)[o]?) ∧ (∀ o, wr.frozen? ⟨w.heap.size + 1, o, none⟩ = false) ∧ OwnS bxLay 28 wr (w.heap.size + 2) (.slice va k vc) (bs.take k) ∧ Below w.heap.size w wr ∧ w.heap.size + 2 ≤ wr.heap.size) (fun _ i _ => n - (intOf i).toNat)
  case atStart => exact ⟨0, _, _, Nat.zero_le _, rfl, rfl, K.out.1, J.out.1, J.out.2, O0.out, B0, by simp⟩
  case round =>
    obtain ⟨k, va, vc, hk, rfl, rfl, k0, j0, g0, ho, hB, hS⟩ := hrel
    have htl : (bs.take k).length = k := by rw [List.length_take, HM.out]; omega
    have ho' : wr.ownsRow (w.heap.size + 2) 28 4 (.slice va k vc) k ((bs.take k).flatMap bxLay.cells) := by
      have := ho
      unfold OwnS at this
      rw [htl] at this
      exact this
    have c0 := k0 0
    have c1 := k0 1
    simp at c0 c1
    by_cases hlt : k < n
    · obtain ⟨b, off, x, rfl, hbl, hx, d0, d1, d2, d3, d4⟩ := rdIt_at (HR.out.below hB) hlt
      have HX := Lib.hid (HB.out k x hx)
      have HO := Lib.hid ho'
      have hrow : ∀ j, (Value.slice va k vc).ownBlock = some j → w.heap.size + 2 ≤ j := fun j hj => (HO.out.lt j hj).1
      have z0 : (0 : Int) ≤ k := by omega
      have z1 : (k : Int) < n := by omega
      have htk := Lib.hid htl
      clear hx ho ho' htl
      go_wp2_with (at_builtin; refine append_src rfl (.tmp 13) (.tmp 20) 125 rfl (w.heap.size + 2) 28 i0 _ 4 32 Tryz.underlying125 hi hz0 hz1 hz2.out rfl (by decide) (.slice va k vc) k ((bs.take k).flatMap bxLay.cells) rfl (World.ownsRow.alloc HO.out _) (some ⟨wr.heap.size, 0, none⟩) 1 1 (bxLay.cells (boxOf x)) rfl rfl (fun h => by cases h) ?_ (bxLay.one _) ?_ ?_ ?_ ?_)
      case refine_1 =>
        intro p hp
        cases hp
        exact World.news_of_block (cs := #[.int .i64 x.x0, .int .i64 x.y0, .int .i64 x.x1, .int .i64 x.y1]) (t := 28) (fr := (0, 0)) (heap_alloc_new wr _)
      case refine_2 => unfold maxLen; omega
      case refine_3 => omega
      case refine_4 => simp; omega
      intro v2 w2 o2 g1
      have g2 : (wr.alloc (.cells #[.int .i64 x.x0, .int .i64 x.y0, .int .i64 x.x1, .int .i64 x.y1] 28)).drew.grownBy w2 (Value.slice va k vc).ownBlock := ⟨g1.os, g1.tape, g1.output, g1.size, g1.block⟩
      obtain ⟨ra, rc, rfl⟩ := owns_shape o2
      have O3 := Lib.hid (ownB_more HX.out htk.out o2)
      have B3 := Lib.hid ((hB.alloc (by omega) (.cells #[.int .i64 x.x0, .int .i64 x.y0, .int .i64 x.x1, .int .i64 x.y1] 28)).grown g1 (by simp; omega) (fun j hj => by have := hrow j hj; omega))
      have c2 := app_cell (O := .cells #[.int .i64 x.x0, .int .i64 x.y0, .int .i64 x.x1, .int .i64 x.y1] 28) g2 hrow k0 (by omega) (by omega)
      have c3 := app_cell (O := .cells #[.int .i64 x.x0, .int .i64 x.y0, .int .i64 x.x1, .int .i64 x.y1] 28) g2 hrow j0 (by omega) (by omega)
      have e3 := app_frozen (O := .cells #[.int .i64 x.x0, .int .i64 x.y0, .int .i64 x.x1, .int .i64 x.y1] 28) g2 hrow g0 (by omega) (by omega)
      have S3 := g2.size
      simp at S3
      clear o2 g1
      go_wp2
      go_roundw
      case rel => exact ⟨k + 1, ra, rc, by omega, rfl, by go_num, c2, c3, e3, O3.out, B3.out, by omega⟩
      case measure => simp [intOf]; omega
    · obtain rfl : k = n := by omega
      have hall : bs.take k = bs := List.take_of_length_le (by rw [HM.out]; exact Nat.le_refl _)
      have HRr := Lib.hid (rdS_owns' (L := bxLay) (xs := bs) (by rw [hall] at ho'; exact ho') HM.out)
      clear ho ho' htl hall
      go_wp2_with fail
      refine (sJoinAll_any va k vc _ _ HRr.out).mono ?_
      rintro e w3 ⟨rfl, hb⟩
      have B3 := hB.trans (hb.mono hB.size)
      have k3 : ∀ o, w3.cell? ⟨w.heap.size + 1, o, none⟩ = (#[.int .i64 0, .int .i64 0, .int .i64 0, .int .i64 0] : Array Value)[o]? := fun o => (hb.cell (p := ⟨w.heap.size + 1, o, none⟩) (show w.heap.size + 1 < wr.heap.size by omega)).trans (j0 o)
      have e3 : ∀ o, w3.frozen? ⟨w.heap.size + 1, o, none⟩ = false := fun o => (hb.frozen (p := ⟨w.heap.size + 1, o, none⟩) (show w.heap.size + 1 < wr.heap.size by omega)).trans (g0 o)
      clear hb
      obtain ⟨r, hr⟩ : ∃ r, joinAll bs = r := ⟨_, rfl⟩
      have HQ := Lib.hid hr
      rw [hr]
      clear hr
      go_wp2
      refine bodyPost_ret (v := .agg #[.int .i64 r.x0, .int .i64 r.y0, .int .i64 r.x1, .int .i64 r.y1]) (by simp [results, Tryz.results90, go_sem, k3]) rfl ⟨by rw [HQ.out], ?_⟩
      exact (((B3.setCell (p := ⟨w.heap.size + 1, 0, none⟩) (show w.heap.size ≤ w.heap.size + 1 by omega) _).setCell (p := ⟨w.heap.size + 1, 1, none⟩) (show w.heap.size ≤ w.heap.size + 1 by omega) _).setCell (p := ⟨w.heap.size + 1, 2, none⟩) (show w.heap.size ≤ w.heap.size + 1 by omega) _).setCell (p := ⟨w.heap.size + 1, 3, none⟩) (show w.heap.size ≤ w.heap.size + 1 by omega) _
end Go.Proofs.YtfefggcfeppeiaaGreat

/- The model's All: the items of the leaves that are reached. -/
namespace Go.Proofs.YtfefggcfeppeiaaGreat
open Go.RowKit
attribute [local go_sem ↓] Go.wp_at_zero Go.wp_at_succ

def allV (l : List Pg) (root : Int) : List It := (leavesV l root).flatMap (fun i => (pageAt l i).xs)
/-- Rows of different elements lie apart. -/
theorem apart_tag {w : World} {base base' : Nat} {e e' : TypeId} {s s' n n' : Nat} {v v' : Value} {xs xs' : List Value} (h : w.ownsRow base e s v n xs) (h' : w.ownsRow base' e' s' v' n' xs') (he : e ≠ e') : Apart v v' := by
  intro g h1 h2
  rcases h.2 with ⟨rfl, _⟩ | ⟨g1, c1, cu1, rfl, _, hh, _⟩
  · cases h1
  rcases h'.2 with ⟨rfl, _⟩ | ⟨g2, c2, cu2, rfl, _, hh', _⟩
  · cases h2
  have e1 : g1 = g := by simpa [Value.ownBlock] using h1
  have e2 : g2 = g := by simpa [Value.ownBlock] using h2
  subst e1 e2
  rw [hh] at hh'
  injection hh' with h3
  injection h3 with _ h4 _
  exact he h4
theorem ownS_rowN {α : Type} {L : Lay α} {e : TypeId} {w : World} {base n : Nat} {v : Value} {xs : List α} (h : OwnS L e w base v xs) (hl : xs.length = n) : w.ownsRow base e L.sz v n (xs.flatMap L.cells) := by subst hl; exact h
theorem cells_one {α : Type} (L : Lay α) (xs : List α) : ∀ u ∈ xs.flatMap L.cells, u.oneCell' = true := by
  intro u hu
  obtain ⟨x, _, hx⟩ := List.mem_flatMap.1 hu
  exact L.one x u hx
theorem leaves_leaf {l : List Pg} {root y : Int} (h : y ∈ leavesV l root) : (pageAt l y).leaf = true ∧ 0 ≤ y ∧ y < (l.length : Int) := by
  have := List.mem_filter.1 h
  exact ⟨this.2, (reachV_ok l root).2 y this.1⟩
theorem leaves_len (l : List Pg) (root : Int) : (leavesV l root).length ≤ l.length := Nat.le_trans (List.length_filter_le _ _) (reachV_le l root)

set_option maxRecDepth 100000 in
set_option maxHeartbeats 3200000 in
theorem sAll_any (root : Int) (a : Option Addr) (n cap : Nat) (ps : List PgV) (w : World) (h : RdP w a n cap ps) (hn : n ≤ 1048576) (hps : ∀ p ∈ ps, p.n ≤ 1048576) :
    Calls Tryz.prog 16 #[.agg #[.int .i64 root, .slice a n cap]] w (NewItems (allV (ps.map PgV.pg) root) w) := by
  obtain ⟨i0, hi0, hz0, hz1, hz2⟩ := info_parts Tryz.infoItem
  replace hi0 := Lib.hid hi0
  replace hz0 := Lib.hid hz0
  replace hz1 := Lib.hid hz1
  replace hz2 := Lib.hid hz2
  have HL := Lib.hid h.1.1.1
  have hnc := h.1.1.2.1
  have hm := h.1.1.2.2.1
  unfold maxLen at hm
  obtain ⟨W0, hW0⟩ : ∃ W0, W0 = (w.alloc (.cells #[.int .i64 root, .slice a n cap] 26)).alloc (.cells #[] 47) := ⟨_, rfl⟩
  have b0 : Below w.heap.size w W0 := by subst hW0; exact ((Below.refl _ _).alloc (Nat.le_refl _) _).alloc (by simp) _
  have s0 : W0.heap.size = w.heap.size + 1 + 1 := by subst hW0; simp
  have K0 : Loc W0 w.heap.size #[.int .i64 root, .slice a n cap] := by subst hW0; exact (Loc.new w _ _).alloc _
  have O0 : OwnS itLay 47 W0 (w.heap.size + 1) (.slice (some ⟨w.heap.size + 1, 0, none⟩) 0 0) [] := by
    subst hW0
    exact own_nil (w.alloc (.cells #[.int .i64 root, .slice a n cap] 26)) 47 5 (w.heap.size + 1) (w.heap.size + 1) (by simp) (Nat.le_refl _)
  have HR := Lib.hid (h.below b0)
  have HRw := Lib.hid h
  have HPS := Lib.hid hps
  have C := Lib.hid (sLeaves_any root a n cap ps W0 HR.out (by omega))
  obtain ⟨r, hrr⟩ : ∃ r, leavesV (ps.map PgV.pg) root = r := ⟨_, rfl⟩
  have HLF : Hid (∀ y ∈ r, (pageAt (ps.map PgV.pg) y).leaf = true ∧ 0 ≤ y ∧ y < (n : Int)) := by
    rw [← hrr]
    exact Lib.hid (fun y hy => by have := leaves_leaf hy; rw [List.length_map, HL.out] at this; exact this)
  have hrl : r.length ≤ n := by
    have := leaves_len (ps.map PgV.pg) root
    rw [hrr, List.length_map, HL.out] at this
    exact this
  have hE : allV (ps.map PgV.pg) root = r.flatMap (fun i => (pageAt (ps.map PgV.pg) i).xs) := by unfold allV; rw [hrr]
  rw [hrr] at C
  rw [hE]
  have k0 := K0.2.1 0
  have k1 := K0.2.1 1
  simp at k0 k1
  clear h hE hrr hps
  go_enter Tryz.func16, Tryz.ntmps16
  go_wp2_with fail
  rw [← hW0]
  clear hW0
  refine C.out.mono ?_
  rintro e w1 ⟨v1, rfl, o1, b1⟩
  obtain ⟨va, vc, rfl, hrd⟩ := Own.rd o1
  have K1 := Lib.hid (K0.below b1)
  have B1 := Lib.hid (b0.trans (b1.mono b0.size))
  have O1 := Lib.hid (O0.below b1)
  have OR1 := Lib.hid o1
  have hq := K1.out.1
  have c1 := K1.out.2.1 1
  simp at c1
  clear o1 b1 hrd C K0 k0 k1 b0 HR O0
  go_wp2
  go_loopw [3, 5] (fun v i wr => ∃ (k : Nat) (vo : Option Addr) (co na : Nat) (acc : List It), k ≤ r.length ∧ v = .slice vo na co ∧ i = .int .i64 (k : Int) ∧ Hid (acc.length = na) ∧ na ≤ k * 1048576 ∧ Hid (acc = (r.take k).flatMap (fun i => (pageAt (ps.map PgV.pg) i).xs)) ∧ Hid (OwnS itLay 47 wr (w.heap.size + 1) (.slice vo na co) acc) ∧ Hid (Own .i64 3 wr W0.heap.size (.slice va r.length vc) r) ∧ Hid (Loc wr w.heap.size #[.int .i64 root, .slice a n cap]) ∧ Hid (Below w.heap.size w wr)) (fun _ i _ => r.length - (intOf i).toNat)
  case atStart => exact ⟨0, _, _, 0, [], Nat.zero_le _, rfl, rfl, Lib.hid rfl, Nat.zero_le _, Lib.hid rfl, O1, OR1, K1, B1⟩
  case round =>
    clear O1 OR1 K1 B1 c1 hq
    obtain ⟨k, vo, co, na, acc, hk, rfl, rfl, HNA, hna, HACC, HO, HOR, HK, HB⟩ := hrel
    have HP := Lib.hid (HRw.out.below HB.out)
    have c1 := HK.out.2.1 1
    simp at c1
    have hq := HK.out.1
    by_cases hlt : k < r.length
    · obtain ⟨rb, roff, hva, hrc⟩ := (rdI_own HOR.out).2 (by omega)
      have rc := hrc k hlt
      have hrb : rb < wr.heap.size := World.block_lt_of_cell? wr ⟨rb, roff + k, none⟩ rc
      obtain ⟨y, hy⟩ : ∃ y, r.getD k 0 = y := ⟨_, rfl⟩
      have hy2 : r[k]? = some y := by
        rw [← hy, List.getD_eq_getElem?_getD, List.getElem?_eq_getElem hlt]
        rfl
      rw [hy] at rc
      obtain ⟨hlf, hyr⟩ := HLF.out y (List.mem_of_getElem? hy2)
      obtain ⟨m, rfl⟩ := Int.eq_ofNat_of_zero_le hyr.1
      have hmn : (m : Int) < n := hyr.2
      obtain ⟨pb, poff, p, hpa, hpl, hp, hprd, d0, d1, d2⟩ := rdP_at HP.out (show m < n by omega)
      have hpg : pageAt (ps.map PgV.pg) m = p.pg := pageAt_yes hp
      have hlf2 : p.leaf = true := by rw [hpg] at hlf; exact hlf
      have HX : Hid ((r.take (k + 1)).flatMap (fun i => (pageAt (ps.map PgV.pg) i).xs) = acc ++ p.xs) := by
        show _ = _
        rw [List.take_add_one, hy2, List.flatMap_append, ← HACC.out]
        simp [hpg, PgV.pg]
      have hpn := HPS.out p (List.mem_of_getElem? hp)
      have hpxl : p.xs.length ≤ 1048576 := by rw [hprd.1.1]; exact hpn
      have HPL := Lib.hid hprd.1.1
      have z3 : (k : Int) < r.length := by omega
      have z4 : (0 : Int) ≤ k := by omega
      have z6 : (0 : Int) ≤ m := by omega
      have CI := fun V (bV : Below wr.heap.size wr V) => sItemsOf_leaf p.a p.n p.cap p.xs V (hprd.below bV) (by omega)
      replace CI := Lib.hid CI
      rw [hpa] at c1
      rw [hlf2] at d1
      replace hpa := Lib.hid hpa
      subst hva
      clear hp hprd hrc hy hyr hy2 hpg d0 hlf hlf2
      have HT := Lib.hid (apart_tag HO.out HOR.out (by decide))
      have hpw : pb < w.heap.size := HRw.out.1.lt (by omega) hpa.out
      have hrow : ∀ j, (Value.slice vo na co).ownBlock = some j → w.heap.size + 1 ≤ j ∧ j ≠ rb := fun j hj => ⟨(World.ownsRow.lt HO.out j hj).1, fun e => HT.out j hj (by rw [e]; rfl)⟩
      have KB := Lib.hid (show ∀ V : World, (∀ q o, q < wr.heap.size → (q < w.heap.size + 1 ∨ q = rb) → V.cell? ⟨q, o, none⟩ = wr.cell? ⟨q, o, none⟩) → (fun V => V.cell? ⟨w.heap.size, 1, none⟩ = some (.slice (some ⟨pb, poff, none⟩) n cap) ∧ V.cell? ⟨rb, roff + k, none⟩ = some (.int .i64 (m : Int)) ∧ V.cell? ⟨pb, poff + m * 3 + 1, none⟩ = some (.bool true) ∧ V.cell? ⟨pb, poff + m * 3 + 1 + 1, none⟩ = some (.slice p.a p.n p.cap)) V from fun V hV => ⟨(hV _ _ hq (.inl (by omega))).trans c1, (hV _ _ hrb (.inr rfl)).trans rc, (hV _ _ hpl (.inl (by omega))).trans d1, (hV _ _ hpl (.inl (by omega))).trans d2⟩)
      go_wp2_with fail
      go_region_held3 (fun V => V.cell? ⟨w.heap.size, 1, none⟩ = some (.slice (some ⟨pb, poff, none⟩) n cap) ∧ V.cell? ⟨rb, roff + k, none⟩ = some (.int .i64 (m : Int)) ∧ V.cell? ⟨pb, poff + m * 3 + 1, none⟩ = some (.bool true) ∧ V.cell? ⟨pb, poff + m * 3 + 1 + 1, none⟩ = some (.slice p.a p.n p.cap))
        (first | exact KB.out _ (fun _ _ _ _ => rfl) | exact KB.out _ (fun q o hq _ => b2.cell (p := ⟨q, o, none⟩) hq) | exact KB.out _ (fun q o hq hq' => (World.cell?_of_block (a := ⟨q, o, none⟩) (g3.block q (by have := b2.size; omega) (fun e => by have := hrow q e.symm; omega))).trans (b2.cell (p := ⟨q, o, none⟩) hq)))
        (first
          | (go_at_call 40; (with_reducible refine (CI.out _ (drew_below _)).mono ?_); rintro e w2 ⟨v2, rfl, o2, b2'⟩; obtain ⟨a2, c2, rfl, r2⟩ := OwnS.rd o2; have b2 := (drew_below wr).trans b2'; have O2 := Lib.hid o2)
          | (refine step_append_src rfl (.tmp 15) (.tmp 25) 31 rfl (w.heap.size + 1) 47 i0 _ 5 40 Tryz.underlying31 hi0.out hz0.out hz1.out hz2.out rfl (by decide) (.slice vo na co) na (acc.flatMap itLay.cells) rfl (ownS_rowN (HO.out.below b2) HNA.out) a2 p.xs.length c2 (p.xs.flatMap itLay.cells) rfl r2.len (fun h => r2.nil h) r2.news (cells_one itLay p.xs) (by unfold maxLen; omega) (by omega) (by have := b2.size; omega) ?_; intro v3 w3 o3 g3; obtain ⟨a3, c3, rfl⟩ := owns_shape o3))
      have HOR3 := Lib.hid ((HOR.out.below b2).keptApart g3 HT.out.symm)
      have HK3 := Lib.hid ((HK.out.below b2).grown g3 (fun j hj => by have := (hrow j hj).1; omega))
      have HB3 := Lib.hid ((HB.out.trans (b2.mono HB.out.size)).grown g3 (by have := b2.size; omega) (fun j hj => by have := (hrow j hj).1; omega))
      have HO3 : Hid (OwnS itLay 47 w3 (w.heap.size + 1) (.slice a3 (na + p.xs.length) c3) (acc ++ p.xs)) := by
        have := o3
        unfold OwnS
        rw [List.length_append, HNA.out, List.flatMap_append]
        exact Lib.hid this
      have HN3 : Hid ((acc ++ p.xs).length = na + p.xs.length) := by
        show _ = _
        rw [List.length_append, HNA.out]
      have HF3 := Lib.hid HX.out.symm
      clear o3 g3 b2 r2 b2' HX O2
      go_wp2
      go_roundw
      case rel => exact ⟨k + 1, a3, c3, na + p.xs.length, _, by omega, rfl, by go_num, HN3, by omega, HF3, HO3, HOR3, HK3, HB3⟩
      case measure => simp [intOf]; omega
    · obtain rfl : k = r.length := by omega
      have hall : Hid (acc = r.flatMap (fun i => (pageAt (ps.map PgV.pg) i).xs)) := by
        have := HACC.out
        rw [List.take_length] at this
        exact Lib.hid this
      go_wp2
      go_ret
      rw [← hall.out]
      exact ⟨_, rfl, OwnS.mono (L := itLay) HO.out (by omega), HB.out⟩

theorem allV_le (l : List Pg) (root : Int) {B : Nat} (hB : ∀ p ∈ l, p.xs.length ≤ B) : (allV l root).length ≤ l.length * B := by
  have h1 := leaves_len l root
  have h2 : ∀ (r : List Int), (r.flatMap (fun i => (pageAt l i).xs)).length ≤ r.length * B := by
    intro r
    induction r with
    | nil => simp
    | cons y r ih =>
      have h3 : (pageAt l y).xs.length ≤ B := by
        unfold pageAt
        split
        · cases e : l[y.toNat]? with
          | none => exact Nat.zero_le _
          | some p => exact hB p (List.mem_of_getElem? e)
        · exact Nat.zero_le _
      rw [List.flatMap_cons, List.length_append, List.length_cons, Nat.add_mul, Nat.one_mul]
      omega
  exact Nat.le_trans (h2 _) (Nat.mul_le_mul_right _ h1)
theorem atV_range (id : Int) : ∀ (l : List It) (k : Int), 0 ≤ k → atV id l k = -1 ∨ (k ≤ atV id l k ∧ atV id l k < k + l.length)
  | [], k, _ => .inl rfl
  | x :: l, k, h => by
    unfold atV
    split
    · right; simp; omega
    · rcases atV_range id l (k + 1) (by omega) with e | e
      · exact .inl e
      · right
        rw [List.length_cons]
        omega
/-- Find's answer. -/
def findV (l : List Pg) (root id : Int) : Bx × Bool := if atV id (allV l root) 0 < 0 then (⟨0, 0, 0, 0⟩, false) else (boxOf ((allV l root)[(atV id (allV l root) 0).toNat]?.getD zeroIt), true)

set_option maxRecDepth 100000 in
set_option maxHeartbeats 1600000 in
theorem sFind_any (root id : Int) (a : Option Addr) (n cap : Nat) (ps : List PgV) (w : World) (h : RdP w a n cap ps) (hn : n ≤ 1048576) (hps : ∀ p ∈ ps, p.n ≤ 1048576) :
    Calls Tryz.prog 9 #[.agg #[.int .i64 root, .slice a n cap], .int .i64 id] w fun e w' => e = .returned (.tuple #[.agg #[.int .i64 (findV (ps.map PgV.pg) root id).1.x0, .int .i64 (findV (ps.map PgV.pg) root id).1.y0, .int .i64 (findV (ps.map PgV.pg) root id).1.x1, .int .i64 (findV (ps.map PgV.pg) root id).1.y1], .bool (findV (ps.map PgV.pg) root id).2]) ∧ Below w.heap.size w w' := by
  obtain ⟨W0, hW0⟩ : ∃ W0, W0 = (w.alloc (.cells #[.int .i64 root, .slice a n cap] 26)).alloc (.cells #[.int .i64 0, .int .i64 0, .int .i64 0, .int .i64 0] 28) := ⟨_, rfl⟩
  have b0 : Below w.heap.size w W0 := by subst hW0; exact ((Below.refl _ _).alloc (Nat.le_refl _) _).alloc (by simp) _
  have C := Lib.hid (sAll_any root a n cap ps W0 (h.below b0) hn hps)
  have hle : (allV (ps.map PgV.pg) root).length ≤ 1099511627776 := by
    have h1 := allV_le (ps.map PgV.pg) root (B := 1048576) (fun q hq => by
      obtain ⟨p, hp, rfl⟩ := List.mem_map.1 hq
      have h2 := hps p hp
      rw [← (h.2 p hp).1.1] at h2
      exact h2)
    rw [List.length_map, h.1.1.1] at h1
    exact Nat.le_trans h1 (Nat.mul_le_mul_right _ hn)
  obtain ⟨xs, hxs⟩ : ∃ xs, allV (ps.map PgV.pg) root = xs := ⟨_, rfl⟩
  obtain ⟨res, hres⟩ : ∃ res, findV (ps.map PgV.pg) root id = res := ⟨_, rfl⟩
  have hF : res = if atV id xs 0 < 0 then ((⟨0, 0, 0, 0⟩ : Bx), false) else (boxOf (xs[(atV id xs 0).toNat]?.getD zeroIt), true) := by rw [← hres, ← hxs]; rfl
  rw [hres]
  rw [hxs] at C hle
  replace hF := Lib.hid hF
  have K : (∀ o, W0.cell? ⟨w.heap.size, o, none⟩ = #[Value.int .i64 root, .slice a n cap][o]?) ∧ (∀ o, W0.cell? ⟨w.heap.size + 1, o, none⟩ = #[Value.int .i64 0, .int .i64 0, .int .i64 0, .int .i64 0][o]?) ∧ (∀ o, W0.frozen? ⟨w.heap.size + 1, o, none⟩ = false) := by
    subst hW0
    have h2 := Loc.new (w.alloc (.cells #[.int .i64 root, .slice a n cap] 26)) #[.int .i64 0, .int .i64 0, .int .i64 0, .int .i64 0] 28
    rw [show (w.alloc (.cells #[.int .i64 root, .slice a n cap] 26)).heap.size = w.heap.size + 1 by simp] at h2
    exact ⟨((Loc.new w _ _).alloc _).2.1, h2.2.1, h2.2.2⟩
  obtain ⟨k0, k1, k2⟩ := K
  have s0 : W0.heap.size = w.heap.size + 1 + 1 := by subst hW0; simp
  clear h hxs hres
  go_enter Tryz.func9, Tryz.ntmps9
  go_wp2_with fail
  rw [← hW0]
  clear hW0
  refine C.out.mono ?_
  rintro e w1 ⟨v1, rfl, o1, b1⟩
  obtain ⟨va, vc, rfl, hrd⟩ := OwnS.rd o1
  have CI := Lib.hid (sItemAt_any va xs.length vc xs id w1 hrd)
  have J1 := Lib.hid (below_keep b1 (by omega) _ _ ⟨k1, k2⟩)
  have B1 := Lib.hid (b0.trans (b1.mono b0.size))
  have RD := Lib.hid hrd
  have s1 := b1.size
  clear o1 hrd b1 k0 k1 k2 C b0
  obtain ⟨j, hj⟩ : ∃ j, atV id xs 0 = j := ⟨_, rfl⟩
  have hjr := atV_range id xs 0 (Int.le_refl _)
  rw [hj] at CI hF hjr
  go_wp2_with fail
  refine CI.out.mono ?_
  rintro e w2 ⟨rfl, b2⟩
  obtain ⟨m1, m2⟩ := below_keep b2 (by omega) _ _ J1.out
  have RD2 := Lib.hid (RD.out.below b2)
  have B2 := Lib.hid (B1.out.trans (b2.mono B1.out.size))
  have s2 := b2.size
  clear b2 B1 RD J1 CI
  by_cases hj0 : j < 0
  · have hv : Hid (res = (⟨0, 0, 0, 0⟩, false)) := Lib.hid (by rw [hF.out, if_pos hj0])
    clear hF hjr hj
    go_wp2
    refine bodyPost_ret (v := .tuple #[.agg #[.int .i64 0, .int .i64 0, .int .i64 0, .int .i64 0], .bool false]) (by simp [results, Tryz.results9, go_sem, m1]) rfl ?_
    rw [hv.out]
    exact ⟨rfl, (((B2.out.setCell (p := ⟨w.heap.size + 1, 0, none⟩) (show w.heap.size ≤ w.heap.size + 1 by omega) _).setCell (p := ⟨w.heap.size + 1, 1, none⟩) (show w.heap.size ≤ w.heap.size + 1 by omega) _).setCell (p := ⟨w.heap.size + 1, 2, none⟩) (show w.heap.size ≤ w.heap.size + 1 by omega) _).setCell (p := ⟨w.heap.size + 1, 3, none⟩) (show w.heap.size ≤ w.heap.size + 1 by omega) _⟩
  · obtain ⟨k, rfl⟩ := Int.eq_ofNat_of_zero_le (show 0 ≤ j by omega)
    have hk : k < xs.length := by omega
    obtain ⟨b, off, x, hva, hbl, hx, d0, d1, d2, d3, d4⟩ := rdIt_at RD2.out hk
    have hv : Hid (res = (boxOf x, true)) := Lib.hid (by rw [hF.out, if_neg hj0, Int.toNat_natCast, hx]; rfl)
    have z1 : (k : Int) < xs.length := by omega
    subst hva
    clear hF hjr hj hx
    go_wp2
    refine bodyPost_ret (v := .tuple #[.agg #[.int .i64 x.x0, .int .i64 x.y0, .int .i64 x.x1, .int .i64 x.y1], .bool true]) (by simp [results, Tryz.results9, go_sem, m1]) rfl ?_
    rw [hv.out]
    exact ⟨rfl, (((B2.out.setCell (p := ⟨w.heap.size + 1, 0, none⟩) (show w.heap.size ≤ w.heap.size + 1 by omega) _).setCell (p := ⟨w.heap.size + 1, 1, none⟩) (show w.heap.size ≤ w.heap.size + 1 by omega) _).setCell (p := ⟨w.heap.size + 1, 2, none⟩) (show w.heap.size ≤ w.heap.size + 1 by omega) _).setCell (p := ⟨w.heap.size + 1, 3, none⟩) (show w.heap.size ≤ w.heap.size + 1 by omega) _⟩
end Go.Proofs.YtfefggcfeppeiaaGreat

/- The model's Choose. -/
namespace Go.Proofs.YtfefggcfeppeiaaGreat
open Go.RowKit
attribute [local go_sem ↓] Go.wp_at_zero Go.wp_at_succ

/-- What a rectangle's area is, and by how much another one makes it grow. -/
def areaI (x : It) : Int := areaB x.x0 x.y0 x.x1 x.y1
def growI (x : It) (r : Bx) : Int := areaB (lst x.x0 r.x0) (lst x.y0 r.y0) (mst x.x1 r.x1) (mst x.y1 r.y1) - areaB x.x0 x.y0 x.x1 x.y1
def getI (xs : List It) (i : Int) : It := xs[i.toNat]?.getD zeroIt
def better (r : Bx) (x y : It) : Bool := decide (growI x r < growI y r) || (growI x r == growI y r && decide (areaI x < areaI y))
def chooseS (xs : List It) (r : Bx) (best : Int) (i : Nat) : Int := if best < 0 then i else if better r (getI xs i) (getI xs best) then i else best
def chooseV (xs : List It) (r : Bx) : Int := (List.range xs.length).foldl (chooseS xs r) (-1)

theorem choose_range (xs : List It) (r : Bx) : ∀ k : Nat, (-1 ≤ (List.range k).foldl (chooseS xs r) (-1) ∧ (List.range k).foldl (chooseS xs r) (-1) < (k : Int)) ∧ (0 < k → 0 ≤ (List.range k).foldl (chooseS xs r) (-1))
  | 0 => by simp
  | k + 1 => by
    have h := choose_range xs r k
    rw [List.range_succ, List.foldl_append]
    generalize (List.range k).foldl (chooseS xs r) (-1) = b at h
    show (-1 ≤ chooseS xs r b k ∧ chooseS xs r b k < ((k + 1 : Nat) : Int)) ∧ (0 < k + 1 → 0 ≤ chooseS xs r b k)
    unfold chooseS
    split
    · omega
    · split <;> omega
theorem chooseV_range (xs : List It) (r : Bx) (h : xs ≠ []) : 0 ≤ chooseV xs r ∧ chooseV xs r < (xs.length : Int) := by
  have h1 := choose_range xs r xs.length
  have h2 : 0 < xs.length := List.length_pos_iff.2 h
  exact ⟨h1.2 h2, h1.1.2⟩
theorem sGrowthI (x : It) (r : Bx) (w : World) : Calls Tryz.prog 101 #[.agg #[.int .i64 x.x0, .int .i64 x.y0, .int .i64 x.x1, .int .i64 x.y1], .agg #[.int .i64 r.x0, .int .i64 r.y0, .int .i64 r.x1, .int .i64 r.y1]] w fun e w' => e = .returned (.int .i64 (growI x r)) ∧ Below w.heap.size w w' := sGrowth_any _ _ _ _ _ _ _ _ w
theorem sAreaI (x : It) (w : World) : Calls Tryz.prog 102 #[.agg #[.int .i64 x.x0, .int .i64 x.y0, .int .i64 x.x1, .int .i64 x.y1]] w fun e w' => e = .returned (.int .i64 (areaI x)) ∧ Below w.heap.size w w' := sArea_any _ _ _ _ w

set_option maxRecDepth 100000 in
set_option maxHeartbeats 3200000 in
theorem sChoose_any (a : Option Addr) (n cap : Nat) (xs : List It) (r : Bx) (w : World) (h : RdS itLay w a n cap xs) :
    Calls Tryz.prog 96 #[.slice a n cap, .agg #[.int .i64 r.x0, .int .i64 r.y0, .int .i64 r.x1, .int .i64 r.y1]] w fun e w' => e = .returned (.int .i64 (chooseV xs r)) ∧ Below w.heap.size w w' := by
  have hm := h.1.2.2.1
  have hnc := h.1.2.1
  unfold maxLen at hm
  have HR := Lib.hid h
  have HL := Lib.hid h.1.1
  have K0 := Lib.hid (Loc.new w #[.int .i64 r.x0, .int .i64 r.y0, .int .i64 r.x1, .int .i64 r.y1] 28)
  have B0 := Lib.hid (new_below w (.cells #[.int .i64 r.x0, .int .i64 r.y0, .int .i64 r.x1, .int .i64 r.y1] 28))
  clear h
  go_enter Tryz.func96, Tryz.ntmps96
  go_wp2
  go_loopw [5, 6] (fun v i wr => ∃ (k : Nat) (b : Int), k ≤ n ∧ v = .int .i64 b ∧ i = .int .i64 (k : Int) ∧ Hid (b = (List.range k).foldl (chooseS xs r) (-1)) ∧ -1 ≤ b ∧ b < k ∧ (0 < k → 0 ≤ b) ∧ Hid (Loc wr w.heap.size #[.int .i64 r.x0, .int .i64 r.y0, .int .i64 r.x1, .int .i64 r.y1]) ∧ Hid (Below w.heap.size w wr)) (fun _ i _ => n - (intOf i).toNat)
  case atStart => exact ⟨0, -1, Nat.zero_le _, rfl, rfl, Lib.hid rfl, by omega, by omega, fun h => by omega, K0, B0⟩
  case round =>
    clear K0 B0
    obtain ⟨k, b, hk, rfl, rfl, HA, hb0, hb1, hb2, HK, HB⟩ := hrel
    by_cases hlt : k < n
    · have hstep : (List.range (k + 1)).foldl (chooseS xs r) (-1) = chooseS xs r b k := by
        rw [List.range_succ, List.foldl_append, ← HA.out]
        rfl
      have z1 : (k : Int) < n := by omega
      by_cases hneg : b < 0
      · have HS : Hid ((k : Int) = (List.range (k + 1)).foldl (chooseS xs r) (-1)) := by
          show _ = _
          rw [hstep]
          unfold chooseS
          rw [if_pos hneg]
        clear hstep
        go_wp2
        go_roundw
        case rel => exact ⟨k + 1, (k : Int), by omega, rfl, by go_num, HS, by omega, by omega, fun _ => by omega, HK, HB⟩
        case measure => simp [intOf]; omega
      · obtain ⟨j, rfl⟩ := Int.eq_ofNat_of_zero_le (show 0 ≤ b by omega)
        obtain ⟨bb, off, x, rfl, hbl, hx, d0, d1, d2, d3, d4⟩ := rdIt_at (HR.out.below HB.out) hlt
        obtain ⟨bb', off', y, ha, _, hy, e0, e1, e2, e3, e4⟩ := rdIt_at (HR.out.below HB.out) (show j < n by omega)
        cases ha
        have hgx : getI xs k = x := by unfold getI; rw [Int.toNat_natCast, hx]; rfl
        have hgy : getI xs j = y := by unfold getI; rw [Int.toNat_natCast, hy]; rfl
        have z2 : (j : Int) < n := by omega
        have z3 : (0 : Int) ≤ j := by omega
        have z4 : (0 : Int) ≤ k := by omega
        have c0 := HK.out.2.1 0
        have c1 := HK.out.2.1 1
        have c2 := HK.out.2.1 2
        have c3 := HK.out.2.1 3
        simp at c0 c1 c2 c3
        have hq := HK.out.1
        obtain ⟨gx, hgx2⟩ : ∃ g, growI x r = g := ⟨_, rfl⟩
        obtain ⟨gy, hgy2⟩ : ∃ g, growI y r = g := ⟨_, rfl⟩
        obtain ⟨ax, hax⟩ : ∃ g, areaI x = g := ⟨_, rfl⟩
        obtain ⟨ay, hay⟩ : ∃ g, areaI y = g := ⟨_, rfl⟩
        have CGx := Lib.hid (fun (W : World) d os => callr (w := W) (d := d) (os := os) (hgx2 ▸ sGrowthI x r _))
        have CGy := Lib.hid (fun (W : World) d os => callr (w := W) (d := d) (os := os) (hgy2 ▸ sGrowthI y r _))
        have CAx := Lib.hid (fun (W : World) d os => callr (w := W) (d := d) (os := os) (hax ▸ sAreaI x _))
        have CAy := Lib.hid (fun (W : World) d os => callr (w := W) (d := d) (os := os) (hay ▸ sAreaI y _))
        have hst2 : (List.range (k + 1)).foldl (chooseS xs r) (-1) = if (decide (gx < gy) || (gx == gy && decide (ax < ay))) = true then (k : Int) else (j : Int) := by
          rw [hstep]
          unfold chooseS
          rw [if_neg hneg, hgx, hgy]
          unfold better
          rw [hgx2, hgy2, hax, hay]
        replace hst2 := Lib.hid hst2
        clear hstep hgx hgy hgx2 hgy2 hax hay hx hy
        go_wp2
        have qd1 := cellq d1
        have qd2 := cellq d2
        have qd3 := cellq d3
        have qd4 := cellq d4
        have qc0 := cellq c0
        have qc1 := cellq c1
        have qc2 := cellq c2
        have qc3 := cellq c3
        refine wp_region_quiet_below (by kernel_rfl) (by kernel_rfl) ?_
        repeat (go_big_quiet_step (with_reducible exact CGx.out _ _ _))
        refine wpQuiet_nil (quiet_end fun w2 b2 => ?_)
        clear qd1 qd2 qd3 qd4 qc0 qc1 qc2 qc3
        replace d1 := (b2.cell (p := ⟨bb, off + k * 5 + 1, none⟩) hbl).trans d1
        replace d2 := (b2.cell (p := ⟨bb, off + k * 5 + 1 + 1, none⟩) hbl).trans d2
        replace d3 := (b2.cell (p := ⟨bb, off + k * 5 + 1 + 2, none⟩) hbl).trans d3
        replace d4 := (b2.cell (p := ⟨bb, off + k * 5 + 1 + 3, none⟩) hbl).trans d4
        replace e1 := (b2.cell (p := ⟨bb, off + j * 5 + 1, none⟩) hbl).trans e1
        replace e2 := (b2.cell (p := ⟨bb, off + j * 5 + 1 + 1, none⟩) hbl).trans e2
        replace e3 := (b2.cell (p := ⟨bb, off + j * 5 + 1 + 2, none⟩) hbl).trans e3
        replace e4 := (b2.cell (p := ⟨bb, off + j * 5 + 1 + 3, none⟩) hbl).trans e4
        replace c0 := (b2.cell (p := ⟨w.heap.size, 0, none⟩) hq).trans c0
        replace c1 := (b2.cell (p := ⟨w.heap.size, 1, none⟩) hq).trans c1
        replace c2 := (b2.cell (p := ⟨w.heap.size, 2, none⟩) hq).trans c2
        replace c3 := (b2.cell (p := ⟨w.heap.size, 3, none⟩) hq).trans c3
        replace hbl := Nat.lt_of_lt_of_le hbl b2.size
        replace hq := Nat.lt_of_lt_of_le hq b2.size
        go_wp2_with fail
        have qe1 := cellq e1
        have qe2 := cellq e2
        have qe3 := cellq e3
        have qe4 := cellq e4
        have qc0 := cellq c0
        have qc1 := cellq c1
        have qc2 := cellq c2
        have qc3 := cellq c3
        refine wp_region_quiet_below (by kernel_rfl) (by kernel_rfl) ?_
        repeat (go_big_quiet_step (with_reducible exact CGy.out _ _ _))
        refine wpQuiet_nil (quiet_end fun w3 b3 => ?_)
        clear qe1 qe2 qe3 qe4 qc0 qc1 qc2 qc3
        replace d1 := (b3.cell (p := ⟨bb, off + k * 5 + 1, none⟩) hbl).trans d1
        replace d2 := (b3.cell (p := ⟨bb, off + k * 5 + 1 + 1, none⟩) hbl).trans d2
        replace d3 := (b3.cell (p := ⟨bb, off + k * 5 + 1 + 2, none⟩) hbl).trans d3
        replace d4 := (b3.cell (p := ⟨bb, off + k * 5 + 1 + 3, none⟩) hbl).trans d4
        replace e1 := (b3.cell (p := ⟨bb, off + j * 5 + 1, none⟩) hbl).trans e1
        replace e2 := (b3.cell (p := ⟨bb, off + j * 5 + 1 + 1, none⟩) hbl).trans e2
        replace e3 := (b3.cell (p := ⟨bb, off + j * 5 + 1 + 2, none⟩) hbl).trans e3
        replace e4 := (b3.cell (p := ⟨bb, off + j * 5 + 1 + 3, none⟩) hbl).trans e4
        replace c0 := (b3.cell (p := ⟨w.heap.size, 0, none⟩) hq).trans c0
        replace c1 := (b3.cell (p := ⟨w.heap.size, 1, none⟩) hq).trans c1
        replace c2 := (b3.cell (p := ⟨w.heap.size, 2, none⟩) hq).trans c2
        replace c3 := (b3.cell (p := ⟨w.heap.size, 3, none⟩) hq).trans c3
        replace hbl := Nat.lt_of_lt_of_le hbl b3.size
        replace hq := Nat.lt_of_lt_of_le hq b3.size
        have BN := HB.out.trans ((b2.trans (b3.mono b2.size)).mono HB.out.size)
        have KN := (HK.out.below b2).below b3
        clear HK HB b2 b3
        by_cases h1 : gx < gy
        · have hd1 : decide (gx < gy) = true := decide_eq_true h1
          go_wp2_with fail
          have qd1 := cellq d1
          refine wp_region_quiet_below (by kernel_rfl) (by kernel_rfl) ?_
          repeat (go_big_quiet_step (fail))
          refine wpQuiet_nil (quiet_end fun w4 b4 => ?_)
          clear qd1
          have HS : Hid (((k : Nat) : Int) = (List.range (k + 1)).foldl (chooseS xs r) (-1)) := Lib.hid (by rw [hst2.out]; simp only [hd1, Bool.true_or, if_true])
          have BZ := Lib.hid (BN.trans (b4.mono BN.size))
          have KZ := Lib.hid (KN.below b4)
          clear b4 BN KN
          go_wp2
          go_roundw
          case rel => exact ⟨k + 1, ((k : Nat) : Int), by omega, rfl, by go_num, HS, by omega, by omega, fun _ => by omega, KZ, BZ⟩
          case measure => simp [intOf]; omega
        · have hd1 : decide (gx < gy) = false := decide_eq_false h1
          by_cases h2 : gx = gy
          · have hd2 : (gx == gy) = true := by rw [beq_iff_eq]; exact h2
            by_cases h3 : ax < ay
            · have hd3 : decide (ax < ay) = true := decide_eq_true h3
              go_wp2_with fail
              have qd1 := cellq d1
              have qd2 := cellq d2
              have qd3 := cellq d3
              have qd4 := cellq d4
              have qe1 := cellq e1
              have qe2 := cellq e2
              have qe3 := cellq e3
              have qe4 := cellq e4
              refine wp_region_quiet_below (by kernel_rfl) (by kernel_rfl) ?_
              repeat (go_big_quiet_step (first | (with_reducible exact CAx.out _ _ _) | (with_reducible exact CAy.out _ _ _)))
              refine wpQuiet_nil (quiet_end fun w4 b4 => ?_)
              clear qd1 qd2 qd3 qd4 qe1 qe2 qe3 qe4
              have HS : Hid (((k : Nat) : Int) = (List.range (k + 1)).foldl (chooseS xs r) (-1)) := Lib.hid (by rw [hst2.out]; simp only [hd1, hd2, hd3, Bool.false_or, Bool.and_true, if_true])
              have BZ := Lib.hid (BN.trans (b4.mono BN.size))
              have KZ := Lib.hid (KN.below b4)
              clear b4 BN KN
              go_wp2
              go_roundw
              case rel => exact ⟨k + 1, ((k : Nat) : Int), by omega, rfl, by go_num, HS, by omega, by omega, fun _ => by omega, KZ, BZ⟩
              case measure => simp [intOf]; omega
            · have hd3 : decide (ax < ay) = false := decide_eq_false h3
              go_wp2_with fail
              have qd1 := cellq d1
              have qd2 := cellq d2
              have qd3 := cellq d3
              have qd4 := cellq d4
              have qe1 := cellq e1
              have qe2 := cellq e2
              have qe3 := cellq e3
              have qe4 := cellq e4
              refine wp_region_quiet_below (by kernel_rfl) (by kernel_rfl) ?_
              repeat (go_big_quiet_step (first | (with_reducible exact CAx.out _ _ _) | (with_reducible exact CAy.out _ _ _)))
              refine wpQuiet_nil (quiet_end fun w4 b4 => ?_)
              clear qd1 qd2 qd3 qd4 qe1 qe2 qe3 qe4
              have HS : Hid (((j : Nat) : Int) = (List.range (k + 1)).foldl (chooseS xs r) (-1)) := Lib.hid (by rw [hst2.out]; simp only [hd1, hd2, hd3, Bool.false_or, Bool.and_false, Bool.false_eq_true, if_false])
              have BZ := Lib.hid (BN.trans (b4.mono BN.size))
              have KZ := Lib.hid (KN.below b4)
              clear b4 BN KN
              go_wp2
              go_roundw
              case rel => exact ⟨k + 1, ((j : Nat) : Int), by omega, rfl, by go_num, HS, by omega, by omega, fun _ => by omega, KZ, BZ⟩
              case measure => simp [intOf]; omega
          · have hd2 : (gx == gy) = false := by rw [beq_eq_false_iff_ne]; exact h2
            go_wp2_with fail
            have qd1 := cellq d1
            refine wp_region_quiet_below (by kernel_rfl) (by kernel_rfl) ?_
            repeat (go_big_quiet_step (fail))
            refine wpQuiet_nil (quiet_end fun w4 b4 => ?_)
            clear qd1
            have HS : Hid (((j : Nat) : Int) = (List.range (k + 1)).foldl (chooseS xs r) (-1)) := Lib.hid (by rw [hst2.out]; simp only [hd1, hd2, Bool.false_or, Bool.false_and, Bool.false_eq_true, if_false])
            have BZ := Lib.hid (BN.trans (b4.mono BN.size))
            have KZ := Lib.hid (KN.below b4)
            clear b4 BN KN
            go_wp2
            go_roundw
            case rel => exact ⟨k + 1, ((j : Nat) : Int), by omega, rfl, by go_num, HS, by omega, by omega, fun _ => by omega, KZ, BZ⟩
            case measure => simp [intOf]; omega
    · obtain rfl : k = n := by omega
      have hr : Hid (chooseV xs r = b) := by
        show _ = b
        unfold chooseV
        rw [HL.out, ← HA.out]
      go_wp2
      go_ret
      exact ⟨ret_i64' hr.out.symm, HB.out⟩
end Go.Proofs.YtfefggcfeppeiaaGreat

/- The model's Waste and Seeds. -/
namespace Go.Proofs.YtfefggcfeppeiaaGreat
open Go.RowKit
attribute [local go_sem ↓] Go.wp_at_zero Go.wp_at_succ

def areaO (b : Bx) : Int := areaB b.x0 b.y0 b.x1 b.y1
def growO (a r : Bx) : Int := areaO (joinB a r) - areaO a
def wasteO (a b : Bx) : Int := areaO (joinB a b) - areaO a - areaO b
theorem areaO_bd (b : Bx) : 0 ≤ areaO b ∧ areaO b ≤ 65536 := areaB_bd _ _ _ _
theorem growO_bd (a r : Bx) : -65536 ≤ growO a r ∧ growO a r ≤ 65536 := by
  have h1 := areaO_bd a
  have h2 := areaO_bd (joinB a r)
  unfold growO
  omega

theorem sAreaO (b : Bx) (w : World) : Calls Tryz.prog 102 #[.agg #[.int .i64 b.x0, .int .i64 b.y0, .int .i64 b.x1, .int .i64 b.y1]] w fun e w' => e = .returned (.int .i64 (areaO b)) ∧ Below w.heap.size w w' := sArea_any _ _ _ _ w
theorem sGrowthO (a r : Bx) (w : World) : Calls Tryz.prog 101 #[.agg #[.int .i64 a.x0, .int .i64 a.y0, .int .i64 a.x1, .int .i64 a.y1], .agg #[.int .i64 r.x0, .int .i64 r.y0, .int .i64 r.x1, .int .i64 r.y1]] w fun e w' => e = .returned (.int .i64 (growO a r)) ∧ Below w.heap.size w w' := sGrowth_any _ _ _ _ _ _ _ _ w

set_option maxRecDepth 100000 in
set_option maxHeartbeats 800000 in
theorem sWaste_any (a b : Bx) (w : World) : Calls Tryz.prog 111 #[.agg #[.int .i64 a.x0, .int .i64 a.y0, .int .i64 a.x1, .int .i64 a.y1], .agg #[.int .i64 b.x0, .int .i64 b.y0, .int .i64 b.x1, .int .i64 b.y1]] w fun e w' => e = .returned (.int .i64 (wasteO a b)) ∧ Below w.heap.size w w' := by
  obtain ⟨W0, hW0⟩ : ∃ W0, W0 = (w.alloc (.cells #[.int .i64 a.x0, .int .i64 a.y0, .int .i64 a.x1, .int .i64 a.y1] 28)).alloc (.cells #[.int .i64 b.x0, .int .i64 b.y0, .int .i64 b.x1, .int .i64 b.y1] 28) := ⟨_, rfl⟩
  have b0 : Below w.heap.size w W0 := by subst hW0; exact ((Below.refl _ _).alloc (Nat.le_refl _) _).alloc (by simp) _
  have KA : Loc W0 w.heap.size #[.int .i64 a.x0, .int .i64 a.y0, .int .i64 a.x1, .int .i64 a.y1] := by subst hW0; exact (Loc.new w _ _).alloc _
  have KB : Loc W0 (w.heap.size + 1) #[.int .i64 b.x0, .int .i64 b.y0, .int .i64 b.x1, .int .i64 b.y1] := by
    subst hW0
    have := Loc.new (w.alloc (.cells #[.int .i64 a.x0, .int .i64 a.y0, .int .i64 a.x1, .int .i64 a.y1] 28)) #[.int .i64 b.x0, .int .i64 b.y0, .int .i64 b.x1, .int .i64 b.y1] 28
    rw [show (w.alloc (.cells #[.int .i64 a.x0, .int .i64 a.y0, .int .i64 a.x1, .int .i64 a.y1] 28)).heap.size = w.heap.size + 1 by simp] at this
    exact this
  have a0 := cellq (KA.2.1 0)
  have a1 := cellq (KA.2.1 1)
  have a2 := cellq (KA.2.1 2)
  have a3 := cellq (KA.2.1 3)
  have c0 := cellq (KB.2.1 0)
  have c1 := cellq (KB.2.1 1)
  have c2 := cellq (KB.2.1 2)
  have c3 := cellq (KB.2.1 3)
  obtain ⟨j, hj⟩ : ∃ j, joinB a b = j := ⟨_, rfl⟩
  obtain ⟨g, hg⟩ : ∃ g, areaO j = g := ⟨_, rfl⟩
  obtain ⟨ga, hga⟩ : ∃ g, areaO a = g := ⟨_, rfl⟩
  obtain ⟨gb, hgb⟩ : ∃ g, areaO b = g := ⟨_, rfl⟩
  have d0 := areaO_bd j
  have d1 := areaO_bd a
  have d2 := areaO_bd b
  rw [hg] at d0
  rw [hga] at d1
  rw [hgb] at d2
  have hv : Hid (wasteO a b = g - ga - gb) := Lib.hid (by unfold wasteO; rw [hj, hg, hga, hgb])
  have hw1 : wrap64 (g - ga) = g - ga := by rw [← IntWalk.i64_left, IntKind.wrap_i64]; omega
  have hw2 : wrap64 (g - ga - gb) = g - ga - gb := by rw [← IntWalk.i64_left, IntKind.wrap_i64]; omega
  have CJ := Lib.hid (fun (W : World) d os => callr (w := W) (d := d) (os := os) (show Calls Tryz.prog 104 #[.agg #[.int .i64 a.x0, .int .i64 a.y0, .int .i64 a.x1, .int .i64 a.y1], .agg #[.int .i64 b.x0, .int .i64 b.y0, .int .i64 b.x1, .int .i64 b.y1]] _ (fun e w' => e = .returned (.agg #[.int .i64 j.x0, .int .i64 j.y0, .int .i64 j.x1, .int .i64 j.y1]) ∧ Below _ _ w') from hj ▸ sJoin_any a.x0 a.y0 a.x1 a.y1 b.x0 b.y0 b.x1 b.y1 _))
  have C0 := Lib.hid (fun (W : World) d os => callr (w := W) (d := d) (os := os) (hg ▸ sAreaO j _))
  have C1 := Lib.hid (fun (W : World) d os => callr (w := W) (d := d) (os := os) (hga ▸ sAreaO a _))
  have C2 := Lib.hid (fun (W : World) d os => callr (w := W) (d := d) (os := os) (hgb ▸ sAreaO b _))
  clear hj hg hga hgb
  go_enter Tryz.func111, Tryz.ntmps111
  go_wp2_with fail
  rw [← hW0]
  clear hW0
  refine wp_region_quiet_below (by kernel_rfl) (by kernel_rfl) ?_
  repeat (go_big_quiet_step (first | (with_reducible exact CJ.out _ _ _) | (with_reducible exact C0.out _ _ _) | (with_reducible exact C1.out _ _ _) | (with_reducible exact C2.out _ _ _)))
  refine wpQuiet_nil (quiet_end fun w2 b2 => ?_)
  go_wp2
  go_ret
  exact ⟨ret_i64' hv.out.symm, b0.trans (b2.mono b0.size)⟩
end Go.Proofs.YtfefggcfeppeiaaGreat
