/- FnPages. -/
import Derived.Test.YtfefggcfeppeiaaPagesEZPages
import Derived.Test.YtfefggcfeppeiaaBookI4ZPages
import Derived.Test.YtfefggcfeppeiaaBookI5ZPages
import Derived.Test.YtfefggcfeppeiaaBookI6ZPages
namespace Go.Proofs.Ytfefggcfeppeiaa
open Go.RowKit

theorem fits_facts {w : World} {base : Nat} {v : Value} {q : List PgV} (hf : Fits 402 2000 (q.map PgV.pg)) (o : OwnP w base v q) : q.length ≤ 402 ∧ (∀ p ∈ q, p.n ≤ 2000) ∧ totG (q.map PgV.pg) ≤ 804000 := by
  obtain ⟨a, c, rfl⟩ := o.shape
  have h0 := hf.1
  rw [List.length_map] at h0
  refine ⟨h0, fun p hp => ?_, ?_⟩
  · have h1 := hf.2 p.pg (List.mem_map_of_mem hp)
    have h2 : p.xs.length = p.n := (o.rd.2 p hp).1.1
    have h3 : p.pg.xs.length = p.xs.length := rfl
    omega
  · have h1 := totG_cap (q.map PgV.pg) hf.2
    have h3 : (q.map PgV.pg).length * 2000 ≤ 402 * 2000 := Nat.mul_le_mul_right _ hf.1
    omega
/-- Small enough. -/
def SmB (q : List PgV) : Prop := q.length ≤ 1099511627776 ∧ ∀ p ∈ q, p.n ≤ 1099511627776
theorem smB {w : World} {base : Nat} {v : Value} {q : List PgV} {L : List Pg} (o : OwnP w base v q) (e : q.map PgV.pg = L) (hl : L.length ≤ 1000000) (ht : totG L ≤ 1000000) : SmB q := by
  refine ⟨?_, fun p hp => Nat.le_trans (pgs_le o e ht p hp) (by decide)⟩
  have := len_pgs e
  omega
theorem smB' {w : World} {a : Option Addr} {n c : Nat} {q : List PgV} {L : List Pg} (o : RdP w a n c q) (e : q.map PgV.pg = L) (hl : L.length ≤ 1000000) (ht : totG L ≤ 1000000) : SmB q := by
  refine ⟨?_, fun p hp => Nat.le_trans (pgs_rd o e ht p hp) (by decide)⟩
  have := len_pgs e
  omega
theorem big_alloc {w : World} {base : Nat} {v : Value} {q1 q : List PgV} (h1 : q1.length ≤ 402) (h2 : totG (q1.map PgV.pg) ≤ 804000) (o : OwnP w base v q) (e : q.map PgV.pg = (allocV (q1.map PgV.pg)).1) : SmB q := by
  have := allocV_le (q1.map PgV.pg)
  rw [List.length_map] at this
  exact smB o e (by omega) (by omega)
theorem big_put {w : World} {base : Nat} {v : Value} {q1 q : List PgV} {i : Int} {b : Bool} {ys : List It} (h1 : q1.length ≤ 402) (h2 : totG (q1.map PgV.pg) ≤ 804000) (hy : ys.length ≤ 4) (o : OwnP w base v q) (e : q.map PgV.pg = putV (q1.map PgV.pg) i ⟨true, b, ys⟩) : SmB q := by
  have h3 := putV_le (q1.map PgV.pg) i ⟨true, b, ys⟩
  rw [List.length_map] at h3
  have h4 : (⟨true, b, ys⟩ : Pg).xs.length = ys.length := rfl
  exact smB o e (by omega) (by omega)
theorem big_put' {w : World} {a : Option Addr} {n c : Nat} {q1 q : List PgV} {i : Int} {b : Bool} {ys : List It} (h1 : q1.length ≤ 402) (h2 : totG (q1.map PgV.pg) ≤ 804000) (hy : ys.length ≤ 4) (o : RdP w a n c q) (e : q.map PgV.pg = putV (q1.map PgV.pg) i ⟨true, b, ys⟩) : SmB q := by
  have h3 := putV_le (q1.map PgV.pg) i ⟨true, b, ys⟩
  rw [List.length_map] at h3
  have h4 : (⟨true, b, ys⟩ : Pg).xs.length = ys.length := rfl
  exact smB' o e (by omega) (by omega)
theorem big_free {w : World} {a : Option Addr} {n c : Nat} {q1 q : List PgV} {ids : List Int} (h1 : q1.length ≤ 402) (h2 : totG (q1.map PgV.pg) ≤ 804000) (o : RdP w a n c q) (e : q.map PgV.pg = freeV (q1.map PgV.pg) ids) : SmB q := by
  have h3 := freeV_le ids (q1.map PgV.pg)
  rw [List.length_map] at h3
  exact smB' o e (by omega) (by omega)
theorem samePg_self (p : Pg) : samePg p p = true := by
  unfold samePg
  rw [(sameV_iff p.xs p.xs).2 rfl]
  cases p.used <;> cases p.leaf <;> rfl
theorem sameB_self (r : Int) (l : List Pg) : sameB r r l l = true := by
  unfold sameB
  simp only [decide_true, Bool.true_and]
  rw [List.all_eq_true]
  intro z hz
  obtain ⟨k, hk⟩ := List.mem_iff_getElem?.1 hz
  rw [List.getElem?_zip_eq_some] at hk
  have e : z.1 = z.2 := by
    have := hk.1.symm.trans hk.2
    simpa using this
  rw [e]
  exact samePg_self _
theorem sameBk_yes (r : Int) (a b : Option Addr) (c1 c2 : Nat) (ps qs : List PgV) (w : World) (h : RdP w a ps.length c1 ps) (h' : RdP w b qs.length c2 qs) (e : ps.map PgV.pg = qs.map PgV.pg) (h1 : SmB ps) (h2 : SmB qs) :
    Calls Try.prog 19 #[.agg #[.int .i64 r, .slice a ps.length c1], .agg #[.int .i64 r, .slice b qs.length c2]] w (RetB true w) := by
  have := iSameBook_any r r a b _ _ c1 c2 ps qs w h h' h1.1 h2.1 h1.2 h2.2
  rw [e, sameB_self] at this
  exact this
theorem sameBk_new (w : World) (a b : Option Addr) (c1 c2 : Nat) (ps qs : List PgV) (h : RdP w a ps.length c1 ps) (h' : RdP w b qs.length c2 qs) (e1 : ps.map PgV.pg = [⟨true, true, []⟩]) (e2 : qs.map PgV.pg = [⟨true, true, []⟩]) :
    Calls Try.prog 19 #[.agg #[.int .i64 0, .slice a ps.length c1], .agg #[.int .i64 0, .slice b qs.length c2]] w (RetB true w) :=
  sameBk_yes 0 a b c1 c2 ps qs w h h' (e1.trans e2.symm) (smB' h e1 (by decide) (by decide)) (smB' h' e2 (by decide) (by decide))
theorem sameNd_yes (b : Bool) (x y : Option Addr) (n c1 c2 : Nat) (xs : List It) (w : World) (h : RdS itLay w x n c1 xs) (h' : RdS itLay w y n c2 xs) :
    Calls Try.prog 24 #[.agg #[.bool b, .slice x n c1], .agg #[.bool b, .slice y n c2]] w fun e w' => e = .returned (.bool true) ∧ Below w.heap.size w w' := by
  have := iSameNode_any b b x y n n c1 c2 xs xs w h h'
  rw [(sameV_iff xs xs).2 rfl] at this
  have e : ((b == b) && true) = true := by cases b <;> rfl
  rw [e] at this
  exact this

theorem alloc_cases (l : List Pg) : (∃ i : Nat, i < l.length ∧ (allocV l).2 = (i : Int) ∧ (allocV l).1 = l.set i leafPg ∧ ∃ p, l[i]? = some p ∧ p.used = false) ∨ ((allocV l).2 = -1 ∧ (allocV l).1 = l) ∨ ((allocV l).2 = (l.length : Int) ∧ (allocV l).1 = l ++ [leafPg]) := by
  unfold allocV
  cases e : l.findIdx? (fun p => !p.used) with
  | some i =>
    left
    rw [List.findIdx?_eq_some_iff_getElem] at e
    obtain ⟨h1, h2, -⟩ := e
    exact ⟨i, h1, rfl, rfl, l[i], List.getElem?_eq_getElem h1, by simpa using h2⟩
  | none =>
    right
    by_cases h : 48 ≤ l.length
    · left
      simp [h]
    · right
      simp [h]

set_option maxRecDepth 100000 in
set_option maxHeartbeats 6400000 in
theorem fnPages_walk (C11 : L11Any) (A : Option Addr) (len cap : Nat) (zs : List Int) (w : World) (h : RdI .u8 w A len cap zs) (hz : ∀ z ∈ zs, 0 ≤ z ∧ z ≤ 255) :
    Calls Try.prog 3 #[.slice A len cap] w fun e w' => e = .returned (.bool true) ∧ Below w.heap.size w w' := by
  have hln := h.1.1
  subst hln
  by_cases hn : zs.length ≤ 1048576
  · have hR := h
    go_enter Try.func3, Try.ntmps3
    go_wp2_with fail
    refine (big_no A _ cap _ hn).mono ?_
    rintro e w0 ⟨rfl, rfl⟩
    have B := Below.refl w.heap.size w
    replace hR := Lib.hid h
    clear h
    go_wp2_with fail
    refine (drawAlloc_any C11 A cap zs _ (hR.out.below B) hz hn).mono ?_
    rintro e w1 ⟨root1, v1, q1, rfl, hf1, o1, b1⟩
    obtain ⟨a1, c1, rfl⟩ := o1.shape
    have Fo1 := o1.frame
    obtain ⟨ln1, pn1, tn1⟩ := fits_facts hf1 o1
    have s1 := b1.size
    have l1 := B.size
    replace B := B.trans (b1.mono B.size)
    clear b1
    have bb := new_below w1 (.cells #[.int .i64 root1, .slice a1 q1.length c1] 26)
    have KB := (blk_new w1 #[.int .i64 root1, .slice a1 q1.length c1] 26).1
    have FKB := cells_frame w1.heap.size (fun o => (#[.int .i64 root1, .slice a1 q1.length c1] : Array Value)[o]?)
    have hB : w1.heap.size < (w1.alloc (.cells #[.int .i64 root1, .slice a1 q1.length c1] 26)).heap.size := by simp
    replace o1 := Fo1.kept o1 bb (by omega)
    replace B := B.trans (bb.mono B.size)
    clear bb
    go_wp2_with fail
    refine (iAlloc_any root1 a1 _ c1 q1 _ o1.rd (by omega) (fun p hp => Nat.le_trans (pn1 p hp) (by decide))).mono ?_
    rintro e w2 ⟨v2, q2, rfl, e2, o2, b2⟩
    obtain ⟨a2, c2, rfl⟩ := o2.shape
    have Fo2 := o2.frame
    have s2 := b2.size
    have l2 := B.size
    replace o1 := Fo1.kept o1 b2 (by omega)
    replace KB := FKB.kept KB b2 (by omega)
    replace B := B.trans (b2.mono B.size)
    clear b2
    have bb := new_below w2 (.cells #[.int .i64 root1, .slice a2 q2.length c2] 26)
    have KX := (blk_new w2 #[.int .i64 root1, .slice a2 q2.length c2] 26).1
    have FKX := cells_frame w2.heap.size (fun o => (#[.int .i64 root1, .slice a2 q2.length c2] : Array Value)[o]?)
    have hX : w2.heap.size < (w2.alloc (.cells #[.int .i64 root1, .slice a2 q2.length c2] 26)).heap.size := by simp
    replace o1 := Fo1.kept o1 bb (by omega)
    replace KB := FKB.kept KB bb (by omega)
    replace o2 := Fo2.kept o2 bb (by omega)
    replace B := B.trans (bb.mono B.size)
    clear bb
    go_wp2_with fail
    refine (sAlloc_any root1 a1 _ c1 q1 _ o1.rd (by omega) (fun p hp => Nat.le_trans (pn1 p hp) (by decide))).mono ?_
    rintro e w3 ⟨v3, q3, rfl, e3, o3, b3⟩
    obtain ⟨a3, c3, rfl⟩ := o3.shape
    have Fo3 := o3.frame
    have s3 := b3.size
    have l3 := B.size
    replace o1 := Fo1.kept o1 b3 (by omega)
    replace KB := FKB.kept KB b3 (by omega)
    replace o2 := Fo2.kept o2 b3 (by omega)
    replace KX := FKX.kept KX b3 (by omega)
    replace B := B.trans (b3.mono B.size)
    clear b3
    have bb := new_below w3 (.cells #[.int .i64 root1, .slice a3 q3.length c3] 26)
    have KY := (blk_new w3 #[.int .i64 root1, .slice a3 q3.length c3] 26).1
    have FKY := cells_frame w3.heap.size (fun o => (#[.int .i64 root1, .slice a3 q3.length c3] : Array Value)[o]?)
    have hY : w3.heap.size < (w3.alloc (.cells #[.int .i64 root1, .slice a3 q3.length c3] 26)).heap.size := by simp
    replace o1 := Fo1.kept o1 bb (by omega)
    replace KB := FKB.kept KB bb (by omega)
    replace o2 := Fo2.kept o2 bb (by omega)
    replace KX := FKX.kept KX bb (by omega)
    replace o3 := Fo3.kept o3 bb (by omega)
    replace B := B.trans (bb.mono B.size)
    clear bb
    go_wp2_with fail
    refine (drawPut_any C11 A cap zs _ (hR.out.below B) hz hn).mono ?_
    rintro e w4 ⟨root4, i4, v4, q4, bn4, un4, ys4, rfl, ilo4, ihi4, hy4, hf4, o4, on4, b4⟩
    obtain ⟨a4, c4, rfl⟩ := o4.shape
    have Fo4 := o4.frame
    obtain ⟨ln4, pn4, tn4⟩ := fits_facts hf4 o4
    obtain ⟨an4, cn4, rfl, -⟩ := on4.rd
    have Fon4 := OwnS.frame on4
    have s4 := b4.size
    have l4 := B.size
    replace o1 := Fo1.kept o1 b4 (by omega)
    replace KB := FKB.kept KB b4 (by omega)
    replace o2 := Fo2.kept o2 b4 (by omega)
    replace KX := FKX.kept KX b4 (by omega)
    replace o3 := Fo3.kept o3 b4 (by omega)
    replace KY := FKY.kept KY b4 (by omega)
    replace B := B.trans (b4.mono B.size)
    clear b4
    have bb := new_below w4 (.cells #[.int .i64 root4, .slice a4 q4.length c4] 26)
    have KC := (blk_new w4 #[.int .i64 root4, .slice a4 q4.length c4] 26).1
    have FKC := cells_frame w4.heap.size (fun o => (#[.int .i64 root4, .slice a4 q4.length c4] : Array Value)[o]?)
    have hC : w4.heap.size < (w4.alloc (.cells #[.int .i64 root4, .slice a4 q4.length c4] 26)).heap.size := by simp
    replace o1 := Fo1.kept o1 bb (by omega)
    replace KB := FKB.kept KB bb (by omega)
    replace o2 := Fo2.kept o2 bb (by omega)
    replace KX := FKX.kept KX bb (by omega)
    replace o3 := Fo3.kept o3 bb (by omega)
    replace KY := FKY.kept KY bb (by omega)
    replace o4 := Fo4.kept o4 bb (by omega)
    replace on4 := Fon4.kept on4 bb (by omega)
    replace B := B.trans (bb.mono B.size)
    clear bb
    obtain ⟨wn, hwn⟩ : ∃ wn, wn = (w4.alloc (.cells #[.int .i64 root4, .slice a4 q4.length c4] 26)) := ⟨_, rfl⟩
    rw [← hwn] at o1 KB o2 KX o3 KY o4 on4 KC hC B
    have swn : wn.heap.size = w4.heap.size + 1 := by rw [hwn]; simp
    have bb := new_below wn (.cells #[.bool bn4, .slice an4 ys4.length cn4] 32)
    have KN := (blk_new wn #[.bool bn4, .slice an4 ys4.length cn4] 32).1
    have FKN := cells_frame wn.heap.size (fun o => (#[.bool bn4, .slice an4 ys4.length cn4] : Array Value)[o]?)
    have hN : wn.heap.size < (wn.alloc (.cells #[.bool bn4, .slice an4 ys4.length cn4] 32)).heap.size := by simp
    replace o1 := Fo1.kept o1 bb (by omega)
    replace KB := FKB.kept KB bb (by omega)
    replace o2 := Fo2.kept o2 bb (by omega)
    replace KX := FKX.kept KX bb (by omega)
    replace o3 := Fo3.kept o3 bb (by omega)
    replace KY := FKY.kept KY bb (by omega)
    replace o4 := Fo4.kept o4 bb (by omega)
    replace on4 := Fon4.kept on4 bb (by omega)
    replace KC := FKC.kept KC bb (by omega)
    replace B := B.trans (bb.mono B.size)
    clear bb
    rw [swn] at KN FKN hN
    go_wp2_with fail
    rw [← hwn]
    clear hwn
    refine (iPut_any root4 i4 a4 _ c4 q4 bn4 an4 _ cn4 ys4 _ o4.rd (rdS_ownsP on4) (wf_small _ (by omega) (by omega)) (by omega) (by omega) (fun p hp => Nat.le_trans (pn4 p hp) (by decide))).mono ?_
    rintro e w5 ⟨v5, q5, rfl, e5, o5, b5⟩
    obtain ⟨a5, c5, rfl⟩ := o5.shape
    have Fo5 := o5.frame
    have s5 := b5.size
    have l5 := B.size
    replace o1 := Fo1.kept o1 b5 (by omega)
    replace KB := FKB.kept KB b5 (by omega)
    replace o2 := Fo2.kept o2 b5 (by omega)
    replace KX := FKX.kept KX b5 (by omega)
    replace o3 := Fo3.kept o3 b5 (by omega)
    replace KY := FKY.kept KY b5 (by omega)
    replace o4 := Fo4.kept o4 b5 (by omega)
    replace on4 := Fon4.kept on4 b5 (by omega)
    replace KC := FKC.kept KC b5 (by omega)
    replace KN := FKN.kept KN b5 (by omega)
    replace B := B.trans (b5.mono B.size)
    clear b5
    have bb := new_below w5 (.cells #[.int .i64 root4, .slice a5 q5.length c5] 26)
    have KP := (blk_new w5 #[.int .i64 root4, .slice a5 q5.length c5] 26).1
    have FKP := cells_frame w5.heap.size (fun o => (#[.int .i64 root4, .slice a5 q5.length c5] : Array Value)[o]?)
    have hP : w5.heap.size < (w5.alloc (.cells #[.int .i64 root4, .slice a5 q5.length c5] 26)).heap.size := by simp
    replace o1 := Fo1.kept o1 bb (by omega)
    replace KB := FKB.kept KB bb (by omega)
    replace o2 := Fo2.kept o2 bb (by omega)
    replace KX := FKX.kept KX bb (by omega)
    replace o3 := Fo3.kept o3 bb (by omega)
    replace KY := FKY.kept KY bb (by omega)
    replace o4 := Fo4.kept o4 bb (by omega)
    replace on4 := Fon4.kept on4 bb (by omega)
    replace KC := FKC.kept KC bb (by omega)
    replace KN := FKN.kept KN bb (by omega)
    replace o5 := Fo5.kept o5 bb (by omega)
    replace B := B.trans (bb.mono B.size)
    clear bb
    go_wp2_with fail
    refine (drawFree_any C11 A cap zs _ (hR.out.below B) hz hn).mono ?_
    rintro e w6 ⟨root6, x6, y6, v6, q6, ad6, rfl, xr6, yr6, hf6, o6, r6, b6⟩
    obtain ⟨a6, c6, rfl⟩ := o6.shape
    have Fo6 := o6.frame
    obtain ⟨ln6, pn6, tn6⟩ := fits_facts hf6 o6
    have s6 := b6.size
    have l6 := B.size
    replace o1 := Fo1.kept o1 b6 (by omega)
    replace KB := FKB.kept KB b6 (by omega)
    replace o2 := Fo2.kept o2 b6 (by omega)
    replace KX := FKX.kept KX b6 (by omega)
    replace o3 := Fo3.kept o3 b6 (by omega)
    replace KY := FKY.kept KY b6 (by omega)
    replace o4 := Fo4.kept o4 b6 (by omega)
    replace on4 := Fon4.kept on4 b6 (by omega)
    replace KC := FKC.kept KC b6 (by omega)
    replace KN := FKN.kept KN b6 (by omega)
    replace o5 := Fo5.kept o5 b6 (by omega)
    replace KP := FKP.kept KP b6 (by omega)
    replace B := B.trans (b6.mono B.size)
    clear b6
    have bb := new_below w6 (.cells #[.int .i64 root6, .slice a6 q6.length c6] 26)
    have KD := (blk_new w6 #[.int .i64 root6, .slice a6 q6.length c6] 26).1
    have FKD := cells_frame w6.heap.size (fun o => (#[.int .i64 root6, .slice a6 q6.length c6] : Array Value)[o]?)
    have hD : w6.heap.size < (w6.alloc (.cells #[.int .i64 root6, .slice a6 q6.length c6] 26)).heap.size := by simp
    replace o1 := Fo1.kept o1 bb (by omega)
    replace KB := FKB.kept KB bb (by omega)
    replace o2 := Fo2.kept o2 bb (by omega)
    replace KX := FKX.kept KX bb (by omega)
    replace o3 := Fo3.kept o3 bb (by omega)
    replace KY := FKY.kept KY bb (by omega)
    replace o4 := Fo4.kept o4 bb (by omega)
    replace on4 := Fon4.kept on4 bb (by omega)
    replace KC := FKC.kept KC bb (by omega)
    replace KN := FKN.kept KN bb (by omega)
    replace o5 := Fo5.kept o5 bb (by omega)
    replace KP := FKP.kept KP bb (by omega)
    replace o6 := Fo6.kept o6 bb (by omega)
    replace B := B.trans (bb.mono B.size)
    clear bb
    have Bl := new_below w6 (.cells #[.int .i64 root6, .slice a6 q6.length c6] 26)
    go_wp2_with fail
    refine (drawSameBook_any C11 A cap zs _ (hR.out.below B) hz hn).mono ?_
    rintro e w7 ⟨rootE7, rootF7, vE7, vF7, qE7, qF7, rfl, hfE7, hfF7, oE7, oF7, b7⟩
    obtain ⟨aE7, cE7, rfl⟩ := oE7.shape
    have FoE7 := oE7.frame
    obtain ⟨lnE7, pnE7, tnE7⟩ := fits_facts hfE7 oE7
    obtain ⟨aF7, cF7, rfl⟩ := oF7.shape
    have FoF7 := oF7.frame
    obtain ⟨lnF7, pnF7, tnF7⟩ := fits_facts hfF7 oF7
    replace Bl := Bl.trans (b7.mono Bl.size)
    have s7 := b7.size
    have l7 := B.size
    replace o1 := Fo1.kept o1 b7 (by omega)
    replace KB := FKB.kept KB b7 (by omega)
    replace o2 := Fo2.kept o2 b7 (by omega)
    replace KX := FKX.kept KX b7 (by omega)
    replace o3 := Fo3.kept o3 b7 (by omega)
    replace KY := FKY.kept KY b7 (by omega)
    replace o4 := Fo4.kept o4 b7 (by omega)
    replace on4 := Fon4.kept on4 b7 (by omega)
    replace KC := FKC.kept KC b7 (by omega)
    replace KN := FKN.kept KN b7 (by omega)
    replace o5 := Fo5.kept o5 b7 (by omega)
    replace KP := FKP.kept KP b7 (by omega)
    replace o6 := Fo6.kept o6 b7 (by omega)
    replace KD := FKD.kept KD b7 (by omega)
    replace B := B.trans (b7.mono B.size)
    clear b7
    have bb := new_below w7 (.cells #[.int .i64 rootE7, .slice aE7 qE7.length cE7] 26)
    have KE := (blk_new w7 #[.int .i64 rootE7, .slice aE7 qE7.length cE7] 26).1
    have FKE := cells_frame w7.heap.size (fun o => (#[.int .i64 rootE7, .slice aE7 qE7.length cE7] : Array Value)[o]?)
    have hE : w7.heap.size < (w7.alloc (.cells #[.int .i64 rootE7, .slice aE7 qE7.length cE7] 26)).heap.size := by simp
    replace o1 := Fo1.kept o1 bb (by omega)
    replace KB := FKB.kept KB bb (by omega)
    replace o2 := Fo2.kept o2 bb (by omega)
    replace KX := FKX.kept KX bb (by omega)
    replace o3 := Fo3.kept o3 bb (by omega)
    replace KY := FKY.kept KY bb (by omega)
    replace o4 := Fo4.kept o4 bb (by omega)
    replace on4 := Fon4.kept on4 bb (by omega)
    replace KC := FKC.kept KC bb (by omega)
    replace KN := FKN.kept KN bb (by omega)
    replace o5 := Fo5.kept o5 bb (by omega)
    replace KP := FKP.kept KP bb (by omega)
    replace o6 := Fo6.kept o6 bb (by omega)
    replace KD := FKD.kept KD bb (by omega)
    replace oE7 := FoE7.kept oE7 bb (by omega)
    replace oF7 := FoF7.kept oF7 bb (by omega)
    replace B := B.trans (bb.mono B.size)
    clear bb
    replace Bl := Bl.trans ((new_below w7 (.cells #[.int .i64 rootE7, .slice aE7 qE7.length cE7] 26)).mono Bl.size)
    obtain ⟨we, hwe⟩ : ∃ we, we = (w7.alloc (.cells #[.int .i64 rootE7, .slice aE7 qE7.length cE7] 26)) := ⟨_, rfl⟩
    rw [← hwe] at o1 KB o2 KX o3 KY o4 on4 KC KN o5 KP o6 KD oE7 oF7 KE hE B Bl
    have swe : we.heap.size = w7.heap.size + 1 := by rw [hwe]; simp
    have bb := new_below we (.cells #[.int .i64 rootF7, .slice aF7 qF7.length cF7] 26)
    have KG := (blk_new we #[.int .i64 rootF7, .slice aF7 qF7.length cF7] 26).1
    have FKG := cells_frame we.heap.size (fun o => (#[.int .i64 rootF7, .slice aF7 qF7.length cF7] : Array Value)[o]?)
    have hG : we.heap.size < (we.alloc (.cells #[.int .i64 rootF7, .slice aF7 qF7.length cF7] 26)).heap.size := by simp
    replace o1 := Fo1.kept o1 bb (by omega)
    replace KB := FKB.kept KB bb (by omega)
    replace o2 := Fo2.kept o2 bb (by omega)
    replace KX := FKX.kept KX bb (by omega)
    replace o3 := Fo3.kept o3 bb (by omega)
    replace KY := FKY.kept KY bb (by omega)
    replace o4 := Fo4.kept o4 bb (by omega)
    replace on4 := Fon4.kept on4 bb (by omega)
    replace KC := FKC.kept KC bb (by omega)
    replace KN := FKN.kept KN bb (by omega)
    replace o5 := Fo5.kept o5 bb (by omega)
    replace KP := FKP.kept KP bb (by omega)
    replace o6 := Fo6.kept o6 bb (by omega)
    replace KD := FKD.kept KD bb (by omega)
    replace oE7 := FoE7.kept oE7 bb (by omega)
    replace oF7 := FoF7.kept oF7 bb (by omega)
    replace KE := FKE.kept KE bb (by omega)
    replace B := B.trans (bb.mono B.size)
    clear bb
    rw [swe] at KG FKG hG
    replace Bl := Bl.trans ((new_below we (.cells #[.int .i64 rootF7, .slice aF7 qF7.length cF7] 26)).mono Bl.size)
    go_wp2_with fail
    rw [← hwe]
    clear hwe
    refine (drawNodeAt_any C11 A cap zs _ (hR.out.below B) hz hn).mono ?_
    rintro e w8 ⟨root8, j8, v8, q8, rfl, jlo8, jhi8, hf8, o8, b8⟩
    obtain ⟨a8, c8, rfl⟩ := o8.shape
    have Fo8 := o8.frame
    obtain ⟨ln8, pn8, tn8⟩ := fits_facts hf8 o8
    replace Bl := Bl.trans (b8.mono Bl.size)
    have s8 := b8.size
    have l8 := B.size
    replace o1 := Fo1.kept o1 b8 (by omega)
    replace KB := FKB.kept KB b8 (by omega)
    replace o2 := Fo2.kept o2 b8 (by omega)
    replace KX := FKX.kept KX b8 (by omega)
    replace o3 := Fo3.kept o3 b8 (by omega)
    replace KY := FKY.kept KY b8 (by omega)
    replace o4 := Fo4.kept o4 b8 (by omega)
    replace on4 := Fon4.kept on4 b8 (by omega)
    replace KC := FKC.kept KC b8 (by omega)
    replace KN := FKN.kept KN b8 (by omega)
    replace o5 := Fo5.kept o5 b8 (by omega)
    replace KP := FKP.kept KP b8 (by omega)
    replace o6 := Fo6.kept o6 b8 (by omega)
    replace KD := FKD.kept KD b8 (by omega)
    replace oE7 := FoE7.kept oE7 b8 (by omega)
    replace oF7 := FoF7.kept oF7 b8 (by omega)
    replace KE := FKE.kept KE b8 (by omega)
    replace KG := FKG.kept KG b8 (by omega)
    replace B := B.trans (b8.mono B.size)
    clear b8
    have bb := new_below w8 (.cells #[.int .i64 root8, .slice a8 q8.length c8] 26)
    have KZ := (blk_new w8 #[.int .i64 root8, .slice a8 q8.length c8] 26).1
    have FKZ := cells_frame w8.heap.size (fun o => (#[.int .i64 root8, .slice a8 q8.length c8] : Array Value)[o]?)
    have hZ : w8.heap.size < (w8.alloc (.cells #[.int .i64 root8, .slice a8 q8.length c8] 26)).heap.size := by simp
    replace o1 := Fo1.kept o1 bb (by omega)
    replace KB := FKB.kept KB bb (by omega)
    replace o2 := Fo2.kept o2 bb (by omega)
    replace KX := FKX.kept KX bb (by omega)
    replace o3 := Fo3.kept o3 bb (by omega)
    replace KY := FKY.kept KY bb (by omega)
    replace o4 := Fo4.kept o4 bb (by omega)
    replace on4 := Fon4.kept on4 bb (by omega)
    replace KC := FKC.kept KC bb (by omega)
    replace KN := FKN.kept KN bb (by omega)
    replace o5 := Fo5.kept o5 bb (by omega)
    replace KP := FKP.kept KP bb (by omega)
    replace o6 := Fo6.kept o6 bb (by omega)
    replace KD := FKD.kept KD bb (by omega)
    replace oE7 := FoE7.kept oE7 bb (by omega)
    replace oF7 := FoF7.kept oF7 bb (by omega)
    replace KE := FKE.kept KE bb (by omega)
    replace KG := FKG.kept KG bb (by omega)
    replace o8 := Fo8.kept o8 bb (by omega)
    replace B := B.trans (bb.mono B.size)
    clear bb
    replace Bl := Bl.trans ((new_below w8 (.cells #[.int .i64 root8, .slice a8 q8.length c8] 26)).mono Bl.size)
    replace r6 := r6.below Bl
    clear Bl
    have hbn0 : ((allocV (q1.map PgV.pg)).2 != (allocV (q1.map PgV.pg)).2) = false := bne_self_eq_false _
    go_upto_region 11 with (fail)
    obtain ⟨W9, hW9⟩ : ∃ W9, (w8.alloc (.cells #[.int .i64 root8, .slice a8 q8.length c8] 26)) = W9 := ⟨_, rfl⟩
    have sW9 : W9.heap.size = w8.heap.size + 1 := by rw [← hW9]; simp
    rw [hW9] at o1 KB o2 KX o3 KY o4 on4 KC KN o5 KP o6 KD oE7 oF7 KE KG o8 KZ hZ B r6
    rw [hW9]
    clear hW9
    have KS := Lib.hid (show ∀ V, Below W9.heap.size W9 V → (fun V => Below W9.heap.size W9 V ∧ V.cell? ⟨w2.heap.size, 0, none⟩ = some (.int .i64 root1) ∧ V.cell? ⟨w2.heap.size, 1, none⟩ = some (.slice a2 q2.length c2) ∧ V.cell? ⟨w3.heap.size, 0, none⟩ = some (.int .i64 root1) ∧ V.cell? ⟨w3.heap.size, 1, none⟩ = some (.slice a3 q3.length c3) ∧ V.cell? ⟨w5.heap.size, 0, none⟩ = some (.int .i64 root4) ∧ V.cell? ⟨w5.heap.size, 1, none⟩ = some (.slice a5 q5.length c5) ∧ V.cell? ⟨w4.heap.size, 0, none⟩ = some (.int .i64 root4) ∧ V.cell? ⟨w4.heap.size, 1, none⟩ = some (.slice a4 q4.length c4) ∧ V.cell? ⟨w4.heap.size + 1, 0, none⟩ = some (.bool bn4) ∧ V.cell? ⟨w4.heap.size + 1, 1, none⟩ = some (.slice an4 ys4.length cn4) ∧ V.cell? ⟨w6.heap.size, 0, none⟩ = some (.int .i64 root6) ∧ V.cell? ⟨w6.heap.size, 1, none⟩ = some (.slice a6 q6.length c6) ∧ V.cell? ⟨w7.heap.size, 0, none⟩ = some (.int .i64 rootE7) ∧ V.cell? ⟨w7.heap.size, 1, none⟩ = some (.slice aE7 qE7.length cE7) ∧ V.cell? ⟨w7.heap.size + 1, 0, none⟩ = some (.int .i64 rootF7) ∧ V.cell? ⟨w7.heap.size + 1, 1, none⟩ = some (.slice aF7 qF7.length cF7) ∧ V.cell? ⟨w8.heap.size, 0, none⟩ = some (.int .i64 root8) ∧ V.cell? ⟨w8.heap.size, 1, none⟩ = some (.slice a8 q8.length c8)) V from fun V b => ⟨b, (b.cell (p := ⟨w2.heap.size, 0, none⟩) (by show w2.heap.size < _; omega)).trans (KX 0), (b.cell (p := ⟨w2.heap.size, 1, none⟩) (by show w2.heap.size < _; omega)).trans (KX 1), (b.cell (p := ⟨w3.heap.size, 0, none⟩) (by show w3.heap.size < _; omega)).trans (KY 0), (b.cell (p := ⟨w3.heap.size, 1, none⟩) (by show w3.heap.size < _; omega)).trans (KY 1), (b.cell (p := ⟨w5.heap.size, 0, none⟩) (by show w5.heap.size < _; omega)).trans (KP 0), (b.cell (p := ⟨w5.heap.size, 1, none⟩) (by show w5.heap.size < _; omega)).trans (KP 1), (b.cell (p := ⟨w4.heap.size, 0, none⟩) (by show w4.heap.size < _; omega)).trans (KC 0), (b.cell (p := ⟨w4.heap.size, 1, none⟩) (by show w4.heap.size < _; omega)).trans (KC 1), (b.cell (p := ⟨w4.heap.size + 1, 0, none⟩) (by show w4.heap.size + 1 < _; omega)).trans (KN 0), (b.cell (p := ⟨w4.heap.size + 1, 1, none⟩) (by show w4.heap.size + 1 < _; omega)).trans (KN 1), (b.cell (p := ⟨w6.heap.size, 0, none⟩) (by show w6.heap.size < _; omega)).trans (KD 0), (b.cell (p := ⟨w6.heap.size, 1, none⟩) (by show w6.heap.size < _; omega)).trans (KD 1), (b.cell (p := ⟨w7.heap.size, 0, none⟩) (by show w7.heap.size < _; omega)).trans (KE 0), (b.cell (p := ⟨w7.heap.size, 1, none⟩) (by show w7.heap.size < _; omega)).trans (KE 1), (b.cell (p := ⟨w7.heap.size + 1, 0, none⟩) (by show w7.heap.size + 1 < _; omega)).trans (KG 0), (b.cell (p := ⟨w7.heap.size + 1, 1, none⟩) (by show w7.heap.size + 1 < _; omega)).trans (KG 1), (b.cell (p := ⟨w8.heap.size, 0, none⟩) (by show w8.heap.size < _; omega)).trans (KZ 0), (b.cell (p := ⟨w8.heap.size, 1, none⟩) (by show w8.heap.size < _; omega)).trans (KZ 1)⟩)
    have KT := Lib.hid (show ∀ V V' : World, Below W9.heap.size W9 V → Below V.heap.size V V' → Below W9.heap.size W9 V' from fun V V' b b' => b.trans (b'.mono b.size))
    have C1 := Lib.hid (fun (V : World) (b : Below W9.heap.size W9 V) => sameBk_yes root1 a2 a3 c2 c3 q2 q3 V (o2.rd.below b) (o3.rd.below b) (e2.trans e3.symm) (big_alloc ln1 tn1 o2 e2) (big_alloc ln1 tn1 o3 e3))
    have C2 := Lib.hid (fun (V : World) (b : Below W9.heap.size W9 V) => sPut_any root4 i4 a4 _ c4 q4 bn4 an4 _ cn4 ys4 V (o4.rd.below b) ((rdS_ownsP on4).below b) (wf_small _ (by omega) (by omega)) (by omega) (by omega) (fun p hp => Nat.le_trans (pn4 p hp) (by decide)))
    have C3 := Lib.hid (fun (V : World) (b : Below W9.heap.size W9 V) (at' : Option Addr) (ct : Nat) (qt : List PgV) (rt : RdP V at' qt.length ct qt) (et : qt.map PgV.pg = putV (q4.map PgV.pg) i4 ⟨true, bn4, ys4⟩) => sameBk_yes root4 a5 at' c5 ct q5 qt V (o5.rd.below b) rt (e5.trans et.symm) (big_put ln4 tn4 hy4 o5 e5) (big_put' ln4 tn4 hy4 rt et))
    have C4 := Lib.hid (fun (V : World) (b : Below W9.heap.size W9 V) => iFree_any root6 a6 _ c6 q6 ad6 2 2 [x6, y6] V (o6.rd.below b) (r6.below b) (by omega) (fun p hp => Nat.le_trans (pn6 p hp) (by decide)))
    have C5 := Lib.hid (fun (V : World) (b : Below W9.heap.size W9 V) => sFree_any root6 a6 _ c6 q6 ad6 2 2 [x6, y6] V (o6.rd.below b) (r6.below b) (by omega) (fun p hp => Nat.le_trans (pn6 p hp) (by decide)))
    have C6 := Lib.hid (fun (V : World) (a1 a2 : Option Addr) (c1 c2 : Nat) (q1 q2 : List PgV) (r1 : RdP V a1 q1.length c1 q1) (r2 : RdP V a2 q2.length c2 q2) (e1 : q1.map PgV.pg = freeV (q6.map PgV.pg) [x6, y6]) (e2 : q2.map PgV.pg = freeV (q6.map PgV.pg) [x6, y6]) => sameBk_yes root6 a1 a2 c1 c2 q1 q2 V r1 r2 (e1.trans e2.symm) (big_free ln6 tn6 r1 e1) (big_free ln6 tn6 r2 e2))
    obtain ⟨sb, hsb⟩ : ∃ sb, sb = sameB rootE7 rootF7 (qE7.map PgV.pg) (qF7.map PgV.pg) := ⟨_, rfl⟩
    have C7 := Lib.hid (fun (V : World) (b : Below W9.heap.size W9 V) => show Calls Try.prog _ _ V (RetB sb V) from by rw [hsb]; exact iSameBook_any rootE7 rootF7 aE7 aF7 _ _ cE7 cF7 qE7 qF7 V (oE7.rd.below b) (oF7.rd.below b) (by omega) (by omega) (fun p hp => Nat.le_trans (pnE7 p hp) (by decide)) (fun p hp => Nat.le_trans (pnF7 p hp) (by decide)))
    have C8 := Lib.hid (fun (V : World) (b : Below W9.heap.size W9 V) => show Calls Try.prog _ _ V (RetB sb V) from by rw [hsb]; exact sSameBook_c rootE7 rootF7 aE7 aF7 _ _ cE7 cF7 qE7 qF7 V (oE7.rd.below b) (oF7.rd.below b) (by omega) (by omega) (fun p hp => Nat.le_trans (pnE7 p hp) (by decide)) (fun p hp => Nat.le_trans (pnF7 p hp) (by decide)))
    have hbn : (sb != sb) = false := bne_self_eq_false _
    clear hsb
    have C9 := Lib.hid (fun (V : World) (b : Below W9.heap.size W9 V) => iNodeAt_any root8 j8 a8 _ c8 q8 V (o8.rd.below b) (wf_small _ (by omega) (by omega)) (fun p hp => Nat.le_trans (pn8 p hp) (by decide)))
    have C10 := Lib.hid (fun (V : World) (b : Below W9.heap.size W9 V) => sNodeAt_any root8 j8 a8 _ c8 q8 V (o8.rd.below b) (wf_small _ (by omega) (by omega)) (fun p hp => Nat.le_trans (pn8 p hp) (by decide)))
    have C11b := Lib.hid (fun (V : World) => show Calls Try.prog 27 #[] V (NewBook 0 [⟨true, true, []⟩] V) from iBookNew_any V)
    have C12 := Lib.hid (fun (V : World) => sBookNew_any V)
    replace o1 := Lib.hid o1
    replace KB := Lib.hid KB
    replace o2 := Lib.hid o2
    replace KX := Lib.hid KX
    replace o3 := Lib.hid o3
    replace KY := Lib.hid KY
    replace o4 := Lib.hid o4
    replace on4 := Lib.hid on4
    replace KC := Lib.hid KC
    replace KN := Lib.hid KN
    replace o5 := Lib.hid o5
    replace KP := Lib.hid KP
    replace o6 := Lib.hid o6
    replace KD := Lib.hid KD
    replace oE7 := Lib.hid oE7
    replace oF7 := Lib.hid oF7
    replace KE := Lib.hid KE
    replace KG := Lib.hid KG
    replace o8 := Lib.hid o8
    replace KZ := Lib.hid KZ
    replace r6 := Lib.hid r6
    go_cut [109] (fun s V => ∃ V1 : World, V1 = V ∧ s = .bool false ∧ Below W9.heap.size W9 V)
    case first => as_aux_lemma =>
      go_region_held3 (fun V => Below W9.heap.size W9 V ∧ V.cell? ⟨w2.heap.size, 0, none⟩ = some (.int .i64 root1) ∧ V.cell? ⟨w2.heap.size, 1, none⟩ = some (.slice a2 q2.length c2) ∧ V.cell? ⟨w3.heap.size, 0, none⟩ = some (.int .i64 root1) ∧ V.cell? ⟨w3.heap.size, 1, none⟩ = some (.slice a3 q3.length c3) ∧ V.cell? ⟨w5.heap.size, 0, none⟩ = some (.int .i64 root4) ∧ V.cell? ⟨w5.heap.size, 1, none⟩ = some (.slice a5 q5.length c5) ∧ V.cell? ⟨w4.heap.size, 0, none⟩ = some (.int .i64 root4) ∧ V.cell? ⟨w4.heap.size, 1, none⟩ = some (.slice a4 q4.length c4) ∧ V.cell? ⟨w4.heap.size + 1, 0, none⟩ = some (.bool bn4) ∧ V.cell? ⟨w4.heap.size + 1, 1, none⟩ = some (.slice an4 ys4.length cn4) ∧ V.cell? ⟨w6.heap.size, 0, none⟩ = some (.int .i64 root6) ∧ V.cell? ⟨w6.heap.size, 1, none⟩ = some (.slice a6 q6.length c6) ∧ V.cell? ⟨w7.heap.size, 0, none⟩ = some (.int .i64 rootE7) ∧ V.cell? ⟨w7.heap.size, 1, none⟩ = some (.slice aE7 qE7.length cE7) ∧ V.cell? ⟨w7.heap.size + 1, 0, none⟩ = some (.int .i64 rootF7) ∧ V.cell? ⟨w7.heap.size + 1, 1, none⟩ = some (.slice aF7 qF7.length cF7) ∧ V.cell? ⟨w8.heap.size, 0, none⟩ = some (.int .i64 root8) ∧ V.cell? ⟨w8.heap.size, 1, none⟩ = some (.slice a8 q8.length c8))
        (first | exact KS.out _ (drew_below _) | exact KS.out _ (KT.out _ _ (And.left (by assumption)) hb))
        (first
          | (go_at_call 19; (with_reducible refine (C1.out _ (by first | exact drew_below _ | exact And.left (by assumption))).mono ?_); rintro e wv ⟨rfl, hb⟩)
          | (go_at_call 20; (with_reducible refine (C2.out _ (by first | exact drew_below _ | exact And.left (by assumption))).mono ?_); rintro e wv ⟨vt, qt, rfl, et, ot, hb⟩; obtain ⟨a_t, ct, rfl⟩ := ot.shape; have rt := ot.rd; replace et := Lib.hid et; clear ot)
          | (go_at_call 19; (with_reducible refine (C3.out _ (by first | exact drew_below _ | exact And.left (by assumption)) a_t ct qt rt et.out).mono ?_); rintro e wv ⟨rfl, hb⟩)
          | (go_at_call 21; (with_reducible refine (C4.out _ (by first | exact drew_below _ | exact And.left (by assumption))).mono ?_); rintro e wv ⟨vy1, qy1, rfl, ey1, oy1, hb⟩; obtain ⟨ay1, cy1, rfl⟩ := oy1.shape; have ry1 := oy1.rd; replace ey1 := Lib.hid ey1; clear oy1)
          | (go_at_call 22; (with_reducible refine (C5.out _ (by first | exact drew_below _ | exact And.left (by assumption))).mono ?_); rintro e wv ⟨vy2, qy2, rfl, ey2, oy2, hb⟩; obtain ⟨ay2, cy2, rfl⟩ := oy2.shape; have ry2 := oy2.rd; replace ey2 := Lib.hid ey2; clear oy2; replace ry1 := ry1.below hb)
          | (go_at_call 19; (with_reducible refine (C6.out _ ay1 ay2 cy1 cy2 qy1 qy2 ry1 ry2 ey1.out ey2.out).mono ?_); rintro e wv ⟨rfl, hb⟩)
          | (go_at_call 19; (with_reducible refine (C7.out _ (by first | exact drew_below _ | exact And.left (by assumption))).mono ?_); rintro e wv ⟨rfl, hb⟩)
          | (go_at_call 23; (with_reducible refine (C8.out _ (by first | exact drew_below _ | exact And.left (by assumption))).mono ?_); rintro e wv ⟨rfl, hb⟩)
          | (go_at_call 25; (with_reducible refine (C9.out _ (by first | exact drew_below _ | exact And.left (by assumption))).mono ?_); rintro e wv ⟨un1, rfl, t1, hb⟩; obtain ⟨x1, n1, rfl, i1⟩ := t1.rd)
          | (go_at_call 26; (with_reducible refine (C10.out _ (by first | exact drew_below _ | exact And.left (by assumption))).mono ?_); rintro e wv ⟨un2, rfl, t2, hb⟩; obtain ⟨x2, n2, rfl, i2⟩ := t2.rd; replace i1 := i1.below hb)
          | (go_at_call 24; (with_reducible refine (sameNd_yes _ x1 x2 _ n1 n2 _ _ i1 i2).mono ?_); rintro e wv ⟨rfl, hb⟩)
          | (go_at_call 27; (with_reducible refine (C11b.out _).mono ?_); rintro e wv ⟨vz1, qz1, rfl, ez1, oz1, hb⟩; obtain ⟨az1, cz1, rfl⟩ := oz1.shape; have rz1 := oz1.rd; replace ez1 := Lib.hid ez1; clear oz1)
          | (go_at_call 28; (with_reducible refine (C12.out _).mono ?_); rintro e wv ⟨vz2, qz2, rfl, ez2, oz2, hb⟩; obtain ⟨az2, cz2, rfl⟩ := oz2.shape; have rz2 := oz2.rd; replace ez2 := Lib.hid ez2; clear oz2; replace rz1 := rz1.below hb)
          | (go_at_call 19; (with_reducible refine (sameBk_new _ az1 az2 cz1 cz2 qz1 qz2 rz1 rz2 ez1.out ez2.out).mono ?_); rintro e wv ⟨rfl, hb⟩))
      all_goals
        rename_i hS
        have hB := hS.1
        clear hS
        go_wp2_with fail
        go_meet
        exact ⟨_, rfl, rfl, hB⟩
    obtain ⟨wc, rfl, rfl, b9⟩ := hcut
    clear C1
    clear C2
    clear C3
    clear C4
    clear C5
    clear C6
    clear C7
    clear C8
    clear C9
    clear C10
    clear C11b
    clear C12
    clear KS
    clear KT
    replace o1 := o1.out
    replace KB := KB.out
    replace o2 := o2.out
    replace KX := KX.out
    replace o3 := o3.out
    replace KY := KY.out
    replace o4 := o4.out
    replace on4 := on4.out
    replace KC := KC.out
    replace KN := KN.out
    replace o5 := o5.out
    replace KP := KP.out
    replace o6 := o6.out
    replace KD := KD.out
    replace oE7 := oE7.out
    replace oF7 := oF7.out
    replace KE := KE.out
    replace KG := KG.out
    replace o8 := o8.out
    replace KZ := KZ.out
    clear r6
    have s9 := b9.size
    replace o1 := Fo1.kept o1 b9 (by omega)
    replace KB := FKB.kept KB b9 (by omega)
    replace o2 := Fo2.kept o2 b9 (by omega)
    replace KX := FKX.kept KX b9 (by omega)
    replace o3 := Fo3.kept o3 b9 (by omega)
    replace KY := FKY.kept KY b9 (by omega)
    replace o4 := Fo4.kept o4 b9 (by omega)
    replace on4 := Fon4.kept on4 b9 (by omega)
    replace KC := FKC.kept KC b9 (by omega)
    replace KN := FKN.kept KN b9 (by omega)
    replace o5 := Fo5.kept o5 b9 (by omega)
    replace KP := FKP.kept KP b9 (by omega)
    replace o6 := Fo6.kept o6 b9 (by omega)
    replace KD := FKD.kept KD b9 (by omega)
    replace oE7 := FoE7.kept oE7 b9 (by omega)
    replace oF7 := FoF7.kept oF7 b9 (by omega)
    replace KE := FKE.kept KE b9 (by omega)
    replace KG := FKG.kept KG b9 (by omega)
    replace o8 := Fo8.kept o8 b9 (by omega)
    replace KZ := FKZ.kept KZ b9 (by omega)
    replace B := B.trans (b9.mono B.size)
    clear b9
    clear o3
    clear KY
    clear o6
    clear KD
    clear oE7
    clear oF7
    clear KE
    clear KG
    clear o8
    clear KZ
    go_upto_region 13 with (fail)
    replace o1 := Lib.hid o1
    replace KB := Lib.hid KB
    replace o2 := Lib.hid o2
    replace KX := Lib.hid KX
    replace o4 := Lib.hid o4
    replace on4 := Lib.hid on4
    replace KC := Lib.hid KC
    replace KN := Lib.hid KN
    replace o5 := Lib.hid o5
    replace KP := Lib.hid KP
    have BH := Lib.hid B
    clear B
    obtain ⟨kk, hkk⟩ : ∃ kk, (allocV (q1.map PgV.pg)).2 = kk := ⟨_, rfl⟩
    rw [hkk]
    go_cut [145] (fun s V => ∃ V1 : World, V1 = V ∧ s = .bool false ∧ Below wc.heap.size wc V)
    case first => as_aux_lemma =>
      have kx0 := KX.out 0
      have kx1 := KX.out 1
      have kb0 := KB.out 0
      have kb1 := KB.out 1
      simp at kx0 kx1 kb0 kb1
      rcases alloc_cases (q1.map PgV.pg) with ⟨i, hi, ek, el, p0, hp0, hu0⟩ | ⟨ek, el⟩ | ⟨ek, el⟩
      · rw [List.length_map] at hi
        have hl2 : q2.length = q1.length := by rw [len_pgs (e2.trans el), List.length_set, List.length_map]
        obtain ⟨pb, poff, p, hpa, hpl, hp, -, d0, -, -⟩ := rdP_at o1.out.rd hi
        obtain ⟨xb, xoff, p', hxa, hxl, hp', -, d0', -, -⟩ := rdP_at o2.out.rd (show i < q2.length by omega)
        have hu : p.used = false := by
          rw [List.getElem?_map, hp] at hp0
          cases hp0
          exact hu0
        have hu' : p'.used = true := by
          have h1 : (q2.map PgV.pg)[i]? = some p'.pg := by rw [List.getElem?_map, hp']; rfl
          rw [e2.trans el, List.getElem?_set_self (by rw [List.length_map]; exact hi)] at h1
          have h2 : leafPg = p'.pg := by simpa using h1
          show p'.pg.used = true
          rw [← h2]
          rfl
        rw [hu] at d0
        rw [hu'] at d0'
        rw [hpa] at kb1
        rw [hxa] at kx1
        rw [hkk] at ek
        subst ek
        have z0 : (0 : Int) ≤ i := by omega
        have z1 : (i : Int) < q1.length := by omega
        have z2 : (i : Int) < q2.length := by omega
        have z3 : ¬ ((i : Int) < 0) := by omega
        clear hp hp' hpa hxa hu hu' hp0 hu0 el hl2 hkk
        go_wp2_with fail
        go_meet
        exact ⟨_, rfl, rfl, Below.refl _ _⟩
      · have CSB := Lib.hid (sameBk_yes root1 a2 a1 c2 c1 q2 q1 wc o2.out.rd o1.out.rd (e2.trans el) (big_alloc ln1 tn1 o2.out e2) (smB o1.out rfl (by rw [List.length_map]; omega) (by omega)))
        rw [hkk] at ek
        subst ek
        clear el
        go_wp2_with fail
        refine CSB.out.mono ?_
        rintro e wv ⟨rfl, hb⟩
        go_wp2_with fail
        go_meet
        exact ⟨_, rfl, rfl, hb⟩
      · rw [List.length_map] at ek
        have hl2 : q2.length = q1.length + 1 := by rw [len_pgs (e2.trans el), List.length_append, List.length_map]; rfl
        obtain ⟨xb, xoff, p', hxa, hxl, hp', -, d0', -, -⟩ := rdP_at o2.out.rd (show q1.length < q2.length by omega)
        have hu' : p'.used = true := by
          have h1 : (q2.map PgV.pg)[q1.length]? = some p'.pg := by rw [List.getElem?_map, hp']; rfl
          rw [e2.trans el, List.getElem?_append_right (by rw [List.length_map]; exact Nat.le_refl _)] at h1
          have h2 : leafPg = p'.pg := by simpa using h1
          show p'.pg.used = true
          rw [← h2]
          rfl
        rw [hu'] at d0'
        rw [hxa] at kx1
        rw [hkk] at ek
        subst ek
        have z0 : (0 : Int) ≤ q1.length := by omega
        have z2 : (q1.length : Int) < q2.length := by omega
        have z3 : ¬ ((q1.length : Int) < 0) := by omega
        clear hp' hxa hu' el hl2 hkk
        go_wp2_with fail
        go_meet
        exact ⟨_, rfl, rfl, Below.refl _ _⟩
    obtain ⟨wd, rfl, rfl, bd⟩ := hcut
    replace o1 := o1.out
    replace KB := KB.out
    replace o2 := o2.out
    replace KX := KX.out
    replace o4 := o4.out
    replace on4 := on4.out
    replace KC := KC.out
    replace KN := KN.out
    replace o5 := o5.out
    replace KP := KP.out
    have B := BH.out
    clear BH
    have sd := bd.size
    clear o2
    clear KX
    replace o1 := Fo1.kept o1 bd (by omega)
    replace KB := FKB.kept KB bd (by omega)
    replace o4 := Fo4.kept o4 bd (by omega)
    replace on4 := Fon4.kept on4 bd (by omega)
    replace KC := FKC.kept KC bd (by omega)
    replace KN := FKN.kept KN bd (by omega)
    replace o5 := Fo5.kept o5 bd (by omega)
    replace KP := FKP.kept KP bd (by omega)
    replace B := B.trans (bd.mono B.size)
    clear bd
    go_wp2_with fail
    have hl5 : q5.length = q4.length := by rw [len_pgs e5, (putV_le _ _ _).1, List.length_map]
    have zl : ((q5.length : Int) == (q4.length : Int)) = true := by rw [hl5]; exact beq_self_eq_true _
    replace hl5 := Lib.hid hl5
    have KS := Lib.hid (show ∀ V, Below wd.heap.size wd V → (fun V => Below wd.heap.size wd V ∧ V.cell? ⟨w1.heap.size, 0, none⟩ = some (.int .i64 root1) ∧ V.cell? ⟨w1.heap.size, 1, none⟩ = some (.slice a1 q1.length c1) ∧ V.cell? ⟨w4.heap.size, 0, none⟩ = some (.int .i64 root4) ∧ V.cell? ⟨w4.heap.size, 1, none⟩ = some (.slice a4 q4.length c4) ∧ V.cell? ⟨w5.heap.size, 0, none⟩ = some (.int .i64 root4) ∧ V.cell? ⟨w5.heap.size, 1, none⟩ = some (.slice a5 q5.length c5) ∧ V.cell? ⟨w4.heap.size + 1, 0, none⟩ = some (.bool bn4) ∧ V.cell? ⟨w4.heap.size + 1, 1, none⟩ = some (.slice an4 ys4.length cn4)) V from fun V b => ⟨b, (b.cell (p := ⟨w1.heap.size, 0, none⟩) (by show w1.heap.size < _; omega)).trans (KB 0), (b.cell (p := ⟨w1.heap.size, 1, none⟩) (by show w1.heap.size < _; omega)).trans (KB 1), (b.cell (p := ⟨w4.heap.size, 0, none⟩) (by show w4.heap.size < _; omega)).trans (KC 0), (b.cell (p := ⟨w4.heap.size, 1, none⟩) (by show w4.heap.size < _; omega)).trans (KC 1), (b.cell (p := ⟨w5.heap.size, 0, none⟩) (by show w5.heap.size < _; omega)).trans (KP 0), (b.cell (p := ⟨w5.heap.size, 1, none⟩) (by show w5.heap.size < _; omega)).trans (KP 1), (b.cell (p := ⟨w4.heap.size + 1, 0, none⟩) (by show w4.heap.size + 1 < _; omega)).trans (KN 0), (b.cell (p := ⟨w4.heap.size + 1, 1, none⟩) (by show w4.heap.size + 1 < _; omega)).trans (KN 1)⟩)
    have KT := Lib.hid (show ∀ V V' : World, Below wd.heap.size wd V → Below V.heap.size V V' → Below wd.heap.size wd V' from fun V V' b b' => b.trans (b'.mono b.size))
    have D1 := Lib.hid (fun (V : World) (b : Below wd.heap.size wd V) => sameBk_yes root1 a1 a1 c1 c1 q1 q1 V (o1.rd.below b) (o1.rd.below b) rfl (smB o1 rfl (by rw [List.length_map]; omega) (by omega)) (smB o1 rfl (by rw [List.length_map]; omega) (by omega)))
    have BH := Lib.hid B
    clear B
    by_cases hi0 : i4 < 0
    · have z0 : i4 < 0 := hi0
      refine wp_region_noPanic ?_
      refine wp_region_held_drew (S := fun V => Below wd.heap.size wd V ∧ V.cell? ⟨w1.heap.size, 0, none⟩ = some (.int .i64 root1) ∧ V.cell? ⟨w1.heap.size, 1, none⟩ = some (.slice a1 q1.length c1) ∧ V.cell? ⟨w4.heap.size, 0, none⟩ = some (.int .i64 root4) ∧ V.cell? ⟨w4.heap.size, 1, none⟩ = some (.slice a4 q4.length c4) ∧ V.cell? ⟨w5.heap.size, 0, none⟩ = some (.int .i64 root4) ∧ V.cell? ⟨w5.heap.size, 1, none⟩ = some (.slice a5 q5.length c5) ∧ V.cell? ⟨w4.heap.size + 1, 0, none⟩ = some (.bool bn4) ∧ V.cell? ⟨w4.heap.size + 1, 1, none⟩ = some (.slice an4 ys4.length cn4)) (by kernel_rfl) (KS.out _ (drew_below wd)) (fun hHeld => ?_)
      refine wpAnyH_take (i := 0) (v := ?v0_1) rfl (by kernel_rfl) (by kernel_rfl) (by kernel_rfl) (fun _ _ _ h => h) (Or.inl ⟨by rfl, ?hy0_1⟩) (by assumption) ?rest0_1
      case hy0_1 => intro w hSw; go_simp; (try with_reducible rfl)
      simp only [List.getElem_toArray, List.getElem_cons_zero, Act.put, List.setIfInBounds_toArray, List.set_cons_zero, List.set_cons_succ]
      refine wpAnyH_take (i := 1) (v := ?v1_2) rfl (by kernel_rfl) (by kernel_rfl) (by kernel_rfl) (fun _ _ _ h => h) (Or.inl ⟨by rfl, ?hy1_2⟩) (by assumption) ?rest1_2
      case hy1_2 => intro w hSw; go_simp; (try with_reducible rfl)
      simp only [List.getElem_toArray, List.getElem_cons_zero, List.getElem_cons_succ, Act.put, List.setIfInBounds_toArray, List.set_cons_zero, List.set_cons_succ]
      refine wpAnyH_take (i := 2) (v := ?v2_3) rfl (by kernel_rfl) (by kernel_rfl) (by kernel_rfl) (fun _ _ _ h => h) (Or.inl ⟨by rfl, ?hy2_3⟩) (by assumption) ?rest2_3
      case hy2_3 => intro w hSw; go_simp; (try with_reducible rfl)
      simp only [List.getElem_toArray, List.getElem_cons_zero, List.getElem_cons_succ, Act.put, List.setIfInBounds_toArray, List.set_cons_zero, List.set_cons_succ]
      refine wpAnyH_take (i := 3) (v := undef) rfl (by kernel_rfl) (by kernel_rfl) (by kernel_rfl) (fun _ _ _ h => h) (Or.inr ⟨by rfl, rfl⟩) (by assumption) ?_
      simp only [List.getElem_toArray, List.getElem_cons_zero, List.getElem_cons_succ, Act.put, List.setIfInBounds_toArray, List.set_cons_zero, List.set_cons_succ]
      refine wpAnyH_take (i := 4) (v := undef) rfl (by kernel_rfl) (by kernel_rfl) (by kernel_rfl) (fun _ _ _ h => h) (Or.inr ⟨by rfl, rfl⟩) (by assumption) ?_
      simp only [List.getElem_toArray, List.getElem_cons_zero, List.getElem_cons_succ, Act.put, List.setIfInBounds_toArray, List.set_cons_zero, List.set_cons_succ]
      refine wpAnyH_take (i := 5) (v := undef) rfl (by kernel_rfl) (by kernel_rfl) (by kernel_rfl) (fun _ _ _ h => h) (Or.inr ⟨by rfl, rfl⟩) (by assumption) ?_
      simp only [List.getElem_toArray, List.getElem_cons_zero, List.getElem_cons_succ, Act.put, List.setIfInBounds_toArray, List.set_cons_zero, List.set_cons_succ]
      refine wpAnyH_take (i := 6) (v := undef) rfl (by kernel_rfl) (by kernel_rfl) (by kernel_rfl) (fun _ _ _ h => h) (Or.inr ⟨by rfl, rfl⟩) (by assumption) ?_
      simp only [List.getElem_toArray, List.getElem_cons_zero, List.getElem_cons_succ, Act.put, List.setIfInBounds_toArray, List.set_cons_zero, List.set_cons_succ]
      refine wpAnyH_take (i := 7) (v := undef) rfl (by kernel_rfl) (by kernel_rfl) (by kernel_rfl) (fun _ _ _ h => h) (Or.inr ⟨by rfl, rfl⟩) (by assumption) ?_
      simp only [List.getElem_toArray, List.getElem_cons_zero, List.getElem_cons_succ, Act.put, List.setIfInBounds_toArray, List.set_cons_zero, List.set_cons_succ]
      refine wpAnyH_take (i := 8) (v := ?v8_4) rfl (by kernel_rfl) (by kernel_rfl) (by kernel_rfl) (fun _ _ _ h => h) (Or.inl ⟨by rfl, ?hy8_4⟩) (by assumption) ?rest8_4
      case hy8_4 => intro w hSw; go_simp; (try with_reducible rfl)
      simp only [List.getElem_toArray, List.getElem_cons_zero, List.getElem_cons_succ, Act.put, List.setIfInBounds_toArray, List.set_cons_zero, List.set_cons_succ]
      refine wpAnyH_take (i := 9) (v := ?v9_5) rfl (by kernel_rfl) (by kernel_rfl) (by kernel_rfl) (fun _ _ _ h => h) (Or.inl ⟨by rfl, ?hy9_5⟩) (by assumption) ?rest9_5
      case hy9_5 => intro w hSw; go_simp; (try with_reducible rfl)
      simp only [List.getElem_toArray, List.getElem_cons_zero, List.getElem_cons_succ, Act.put, List.setIfInBounds_toArray, List.set_cons_zero, List.set_cons_succ]
      refine wpAnyH_take (i := 10) (v := undef) rfl (by kernel_rfl) (by kernel_rfl) (by kernel_rfl) (fun _ _ _ h => h) (Or.inr ⟨by rfl, rfl⟩) (by assumption) ?_
      simp only [List.getElem_toArray, List.getElem_cons_zero, List.getElem_cons_succ, Act.put, List.setIfInBounds_toArray, List.set_cons_zero, List.set_cons_succ]
      refine wpAnyH_take (i := 11) (v := undef) rfl (by kernel_rfl) (by kernel_rfl) (by kernel_rfl) (fun _ _ _ h => h) (Or.inr ⟨by rfl, rfl⟩) (by assumption) ?_
      simp only [List.getElem_toArray, List.getElem_cons_zero, List.getElem_cons_succ, Act.put, List.setIfInBounds_toArray, List.set_cons_zero, List.set_cons_succ]
      refine wpAnyH_take (i := 12) (v := undef) rfl (by kernel_rfl) (by kernel_rfl) (by kernel_rfl) (fun _ _ _ h => h) (Or.inr ⟨by rfl, rfl⟩) (by assumption) ?_
      simp only [List.getElem_toArray, List.getElem_cons_zero, List.getElem_cons_succ, Act.put, List.setIfInBounds_toArray, List.set_cons_zero, List.set_cons_succ]
      refine wpAnyH_take (i := 13) (v := undef) rfl (by kernel_rfl) (by kernel_rfl) (by kernel_rfl) (fun _ _ _ h => h) (Or.inr ⟨by rfl, rfl⟩) (by assumption) ?_
      simp only [List.getElem_toArray, List.getElem_cons_zero, List.getElem_cons_succ, Act.put, List.setIfInBounds_toArray, List.set_cons_zero, List.set_cons_succ]
      refine wpAnyH_take (i := 14) (v := undef) rfl (by kernel_rfl) (by kernel_rfl) (by kernel_rfl) (fun _ _ _ h => h) (Or.inr ⟨by rfl, rfl⟩) (by assumption) ?_
      simp only [List.getElem_toArray, List.getElem_cons_zero, List.getElem_cons_succ, Act.put, List.setIfInBounds_toArray, List.set_cons_zero, List.set_cons_succ]
      refine wpAnyH_take (i := 15) (v := undef) rfl (by kernel_rfl) (by kernel_rfl) (by kernel_rfl) (fun _ _ _ h => h) (Or.inr ⟨by rfl, rfl⟩) (by assumption) ?_
      simp only [List.getElem_toArray, List.getElem_cons_zero, List.getElem_cons_succ, Act.put, List.setIfInBounds_toArray, List.set_cons_zero, List.set_cons_succ]
      refine wpAnyH_take (i := 16) (v := undef) rfl (by kernel_rfl) (by kernel_rfl) (by kernel_rfl) (fun _ _ _ h => h) (Or.inr ⟨by rfl, rfl⟩) (by assumption) ?_
      simp only [List.getElem_toArray, List.getElem_cons_zero, List.getElem_cons_succ, Act.put, List.setIfInBounds_toArray, List.set_cons_zero, List.set_cons_succ]
      refine wpAnyH_take (i := 17) (v := undef) rfl (by kernel_rfl) (by kernel_rfl) (by kernel_rfl) (fun _ _ _ h => h) (Or.inr ⟨by rfl, rfl⟩) (by assumption) ?_
      simp only [List.getElem_toArray, List.getElem_cons_zero, List.getElem_cons_succ, Act.put, List.setIfInBounds_toArray, List.set_cons_zero, List.set_cons_succ]
      refine wpAnyH_take (i := 18) (v := undef) rfl (by kernel_rfl) (by kernel_rfl) (by kernel_rfl) (fun _ _ _ h => h) (Or.inr ⟨by rfl, rfl⟩) (by assumption) ?_
      simp only [List.getElem_toArray, List.getElem_cons_zero, List.getElem_cons_succ, Act.put, List.setIfInBounds_toArray, List.set_cons_zero, List.set_cons_succ]
      refine wpAnyH_take (i := 19) (v := undef) rfl (by kernel_rfl) (by kernel_rfl) (by kernel_rfl) (fun _ _ _ h => h) (Or.inr ⟨by rfl, rfl⟩) (by assumption) ?_
      simp only [List.getElem_toArray, List.getElem_cons_zero, List.getElem_cons_succ, Act.put, List.setIfInBounds_toArray, List.set_cons_zero, List.set_cons_succ]
      refine wpAnyH_take (i := 20) (v := undef) rfl (by kernel_rfl) (by kernel_rfl) (by kernel_rfl) (fun _ _ _ h => h) (Or.inr ⟨by rfl, rfl⟩) (by assumption) ?_
      simp only [List.getElem_toArray, List.getElem_cons_zero, List.getElem_cons_succ, Act.put, List.setIfInBounds_toArray, List.set_cons_zero, List.set_cons_succ]
      refine wpAnyH_take (i := 21) (v := undef) rfl (by kernel_rfl) (by kernel_rfl) (by kernel_rfl) (fun _ _ _ h => h) (Or.inr ⟨by rfl, rfl⟩) (by assumption) ?_
      simp only [List.getElem_toArray, List.getElem_cons_zero, List.getElem_cons_succ, Act.put, List.setIfInBounds_toArray, List.set_cons_zero, List.set_cons_succ]
      refine wpAnyH_take (i := 22) (v := undef) rfl (by kernel_rfl) (by kernel_rfl) (by kernel_rfl) (fun _ _ _ h => h) (Or.inr ⟨by rfl, rfl⟩) (by assumption) ?_
      simp only [List.getElem_toArray, List.getElem_cons_zero, List.getElem_cons_succ, Act.put, List.setIfInBounds_toArray, List.set_cons_zero, List.set_cons_succ]
      refine wpAnyH_take (i := 23) (v := ?v23_6) rfl (by kernel_rfl) (by kernel_rfl) (by kernel_rfl) (fun _ _ _ h => h) (Or.inl ⟨by rfl, ?hy23_6⟩) (by assumption) ?rest23_6
      case hy23_6 => intro w hSw; go_simp; (try with_reducible rfl)
      simp only [List.getElem_toArray, List.getElem_cons_zero, List.getElem_cons_succ, Act.put, List.setIfInBounds_toArray, List.set_cons_zero, List.set_cons_succ]
      refine wpAnyH_take (i := 24) (v := ?v24_7) rfl (by kernel_rfl) (by kernel_rfl) (by kernel_rfl) (fun _ _ _ h => h) (Or.inl ⟨by rfl, ?hy24_7⟩) (by assumption) ?rest24_7
      case hy24_7 => intro w hSw; go_simp; (try with_reducible rfl)
      simp only [List.getElem_toArray, List.getElem_cons_zero, List.getElem_cons_succ, Act.put, List.setIfInBounds_toArray, List.set_cons_zero, List.set_cons_succ]
      refine wpAnyH_take (i := 25) (v := ?v25_8) rfl (by kernel_rfl) (by kernel_rfl) (by kernel_rfl) (fun _ _ _ h => h) (Or.inl ⟨by rfl, ?hy25_8⟩) (by assumption) ?rest25_8
      case hy25_8 => intro w hSw; go_simp; (try with_reducible rfl)
      simp only [List.getElem_toArray, List.getElem_cons_zero, List.getElem_cons_succ, Act.put, List.setIfInBounds_toArray, List.set_cons_zero, List.set_cons_succ]
      refine wpAnyH_take (i := 26) (v := ?v26_9) rfl (by kernel_rfl) (by kernel_rfl) (by kernel_rfl) (fun _ _ _ h => h) (Or.inl ⟨by rfl, ?hy26_9⟩) (by assumption) ?rest26_9
      case hy26_9 => intro w hSw; go_simp; (try with_reducible rfl)
      simp only [List.getElem_toArray, List.getElem_cons_zero, List.getElem_cons_succ, Act.put, List.setIfInBounds_toArray, List.set_cons_zero, List.set_cons_succ]
      refine wpAnyH_take (i := 27) (v := ?v27_10) rfl (by kernel_rfl) (by kernel_rfl) (by kernel_rfl) (fun _ _ _ h => h) (Or.inl ⟨by rfl, ?hy27_10⟩) (by assumption) ?rest27_10
      case hy27_10 => intro w hSw; go_simp; (try with_reducible rfl)
      simp only [List.getElem_toArray, List.getElem_cons_zero, List.getElem_cons_succ, Act.put, List.setIfInBounds_toArray, List.set_cons_zero, List.set_cons_succ]
      refine wpAnyH_take (i := 28) (v := ?v28_11) rfl (by kernel_rfl) (by kernel_rfl) (by kernel_rfl) (fun _ _ _ h => h) (Or.inl ⟨by rfl, ?hy28_11⟩) (by assumption) ?rest28_11
      case hy28_11 => intro w hSw; go_simp; (try with_reducible rfl)
      simp only [List.getElem_toArray, List.getElem_cons_zero, List.getElem_cons_succ, Act.put, List.setIfInBounds_toArray, List.set_cons_zero, List.set_cons_succ]
      refine wpAnyH_take (i := 29) (v := ?v29_12) rfl (by kernel_rfl) (by kernel_rfl) (by kernel_rfl) (fun _ _ _ h => h) (Or.inl ⟨by rfl, ?hy29_12⟩) (by assumption) ?rest29_12
      case hy29_12 => intro w hSw; go_simp; (try with_reducible rfl)
      simp only [List.getElem_toArray, List.getElem_cons_zero, List.getElem_cons_succ, Act.put, List.setIfInBounds_toArray, List.set_cons_zero, List.set_cons_succ]
      refine wpAnyH_take (i := 30) (v := ?v30_13) rfl (by kernel_rfl) (by kernel_rfl) (by kernel_rfl) (fun _ _ _ h => h) (Or.inl ⟨by rfl, ?hy30_13⟩) (by assumption) ?rest30_13
      case hy30_13 => intro w hSw; go_simp; (try with_reducible rfl)
      simp only [List.getElem_toArray, List.getElem_cons_zero, List.getElem_cons_succ, Act.put, List.setIfInBounds_toArray, List.set_cons_zero, List.set_cons_succ]
      refine wpAnyH_take (i := 31) (v := ?v31_14) rfl (by kernel_rfl) (by kernel_rfl) (by kernel_rfl) (fun _ _ _ h => h) (Or.inl ⟨by rfl, ?hy31_14⟩) (by assumption) ?rest31_14
      case hy31_14 => intro w hSw; go_simp; (try with_reducible rfl)
      simp only [List.getElem_toArray, List.getElem_cons_zero, List.getElem_cons_succ, Act.put, List.setIfInBounds_toArray, List.set_cons_zero, List.set_cons_succ]
      refine wpAnyH_take (i := 32) (v := ?v32_15) rfl (by kernel_rfl) (by kernel_rfl) (by kernel_rfl) (fun _ _ _ h => h) (Or.inl ⟨by rfl, ?hy32_15⟩) (by assumption) ?rest32_15
      case hy32_15 => intro w hSw; go_simp; (try with_reducible rfl)
      simp only [List.getElem_toArray, List.getElem_cons_zero, List.getElem_cons_succ, Act.put, List.setIfInBounds_toArray, List.set_cons_zero, List.set_cons_succ]
      refine wpAnyH_take (i := 33) (v := ?v33_16) rfl (by kernel_rfl) (by kernel_rfl) (by kernel_rfl) (fun _ _ _ h => h) (Or.inl ⟨by rfl, ?hy33_16⟩) (by assumption) ?rest33_16
      case hy33_16 => intro w hSw; go_simp; (try with_reducible rfl)
      simp only [List.getElem_toArray, List.getElem_cons_zero, List.getElem_cons_succ, Act.put, List.setIfInBounds_toArray, List.set_cons_zero, List.set_cons_succ]
      refine wpAnyH_take (i := 34) (v := ?v34_17) rfl (by kernel_rfl) (by kernel_rfl) (by kernel_rfl) (fun _ _ _ h => h) (Or.inl ⟨by rfl, ?hy34_17⟩) (by assumption) ?rest34_17
      case hy34_17 => intro w hSw; go_simp; (try with_reducible rfl)
      simp only [List.getElem_toArray, List.getElem_cons_zero, List.getElem_cons_succ, Act.put, List.setIfInBounds_toArray, List.set_cons_zero, List.set_cons_succ]
      refine wpAnyH_take (i := 35) (v := ?v35_18) rfl (by kernel_rfl) (by kernel_rfl) (by kernel_rfl) (fun _ _ _ h => h) (Or.inl ⟨by rfl, ?hy35_18⟩) (by assumption) ?rest35_18
      case hy35_18 => intro w hSw; go_simp; (try with_reducible rfl)
      simp only [List.getElem_toArray, List.getElem_cons_zero, List.getElem_cons_succ, Act.put, List.setIfInBounds_toArray, List.set_cons_zero, List.set_cons_succ]
      refine wpAnyH_ready (rs := [36]) (by kernel_rfl) (by simp) ?_
      refine AllReadyH.cons rfl (fun K hK => ?_) AllReadyH.nil
      go_simp
      refine (D1.out _ (And.left (by assumption))).mono ?_
      rintro e wv ⟨rfl, hb⟩
      refine hK.out _ _ (KS.out _ (KT.out _ _ (And.left (by assumption)) hb)) (fun hHeld => ?_)
      clear hK K
      refine wpAnyH_take (i := 37) (v := ?v37_19) rfl (by kernel_rfl) (by kernel_rfl) (by kernel_rfl) (fun _ _ _ h => h) (Or.inl ⟨by rfl, ?hy37_19⟩) (by assumption) ?rest37_19
      case hy37_19 => intro w hSw; go_simp; (try with_reducible rfl)
      simp only [List.getElem_toArray, List.getElem_cons_zero, List.getElem_cons_succ, Act.put, List.setIfInBounds_toArray, List.set_cons_zero, List.set_cons_succ]
      refine wpAnyH_take (i := 38) (v := ?v38_20) rfl (by kernel_rfl) (by kernel_rfl) (by kernel_rfl) (fun _ _ _ h => h) (Or.inl ⟨by rfl, ?hy38_20⟩) (by assumption) ?rest38_20
      case hy38_20 => intro w hSw; go_simp; (try with_reducible rfl)
      simp only [List.getElem_toArray, List.getElem_cons_zero, List.getElem_cons_succ, Act.put, List.setIfInBounds_toArray, List.set_cons_zero, List.set_cons_succ]
      refine wpAnyH_done (by kernel_rfl) ?_ _
      refine NoPanic.normal ?_
      have Be := hHeld.1
      clear hHeld
      go_wp2
      go_ret
      exact ⟨rfl, BH.out.trans (Be.mono BH.out.size)⟩
    by_cases hi1 : (q4.length : Int) ≤ i4
    · have z0 : ¬ (i4 < 0) := hi0
      have z1 : (q4.length : Int) ≤ i4 := hi1
      refine wp_region_noPanic ?_
      refine wp_region_held_drew (S := fun V => Below wd.heap.size wd V ∧ V.cell? ⟨w1.heap.size, 0, none⟩ = some (.int .i64 root1) ∧ V.cell? ⟨w1.heap.size, 1, none⟩ = some (.slice a1 q1.length c1) ∧ V.cell? ⟨w4.heap.size, 0, none⟩ = some (.int .i64 root4) ∧ V.cell? ⟨w4.heap.size, 1, none⟩ = some (.slice a4 q4.length c4) ∧ V.cell? ⟨w5.heap.size, 0, none⟩ = some (.int .i64 root4) ∧ V.cell? ⟨w5.heap.size, 1, none⟩ = some (.slice a5 q5.length c5) ∧ V.cell? ⟨w4.heap.size + 1, 0, none⟩ = some (.bool bn4) ∧ V.cell? ⟨w4.heap.size + 1, 1, none⟩ = some (.slice an4 ys4.length cn4)) (by kernel_rfl) (KS.out _ (drew_below wd)) (fun hHeld => ?_)
      refine wpAnyH_take (i := 0) (v := ?v0_21) rfl (by kernel_rfl) (by kernel_rfl) (by kernel_rfl) (fun _ _ _ h => h) (Or.inl ⟨by rfl, ?hy0_21⟩) (by assumption) ?rest0_21
      case hy0_21 => intro w hSw; go_simp; (try with_reducible rfl)
      simp only [List.getElem_toArray, List.getElem_cons_zero, Act.put, List.setIfInBounds_toArray, List.set_cons_zero, List.set_cons_succ]
      refine wpAnyH_take (i := 1) (v := ?v1_22) rfl (by kernel_rfl) (by kernel_rfl) (by kernel_rfl) (fun _ _ _ h => h) (Or.inl ⟨by rfl, ?hy1_22⟩) (by assumption) ?rest1_22
      case hy1_22 => intro w hSw; go_simp; (try with_reducible rfl)
      simp only [List.getElem_toArray, List.getElem_cons_zero, List.getElem_cons_succ, Act.put, List.setIfInBounds_toArray, List.set_cons_zero, List.set_cons_succ]
      refine wpAnyH_take (i := 2) (v := ?v2_23) rfl (by kernel_rfl) (by kernel_rfl) (by kernel_rfl) (fun _ _ _ h => h) (Or.inl ⟨by rfl, ?hy2_23⟩) (by assumption) ?rest2_23
      case hy2_23 => intro w hSw; go_simp; (try with_reducible rfl)
      simp only [List.getElem_toArray, List.getElem_cons_zero, List.getElem_cons_succ, Act.put, List.setIfInBounds_toArray, List.set_cons_zero, List.set_cons_succ]
      refine wpAnyH_take (i := 3) (v := ?v3_24) rfl (by kernel_rfl) (by kernel_rfl) (by kernel_rfl) (fun _ _ _ h => h) (Or.inl ⟨by rfl, ?hy3_24⟩) (by assumption) ?rest3_24
      case hy3_24 => intro w hSw; go_simp; (try with_reducible rfl)
      simp only [List.getElem_toArray, List.getElem_cons_zero, List.getElem_cons_succ, Act.put, List.setIfInBounds_toArray, List.set_cons_zero, List.set_cons_succ]
      refine wpAnyH_take (i := 4) (v := ?v4_25) rfl (by kernel_rfl) (by kernel_rfl) (by kernel_rfl) (fun _ _ _ h => h) (Or.inl ⟨by rfl, ?hy4_25⟩) (by assumption) ?rest4_25
      case hy4_25 => intro w hSw; go_simp; (try with_reducible rfl)
      simp only [List.getElem_toArray, List.getElem_cons_zero, List.getElem_cons_succ, Act.put, List.setIfInBounds_toArray, List.set_cons_zero, List.set_cons_succ]
      refine wpAnyH_take (i := 5) (v := ?v5_26) rfl (by kernel_rfl) (by kernel_rfl) (by kernel_rfl) (fun _ _ _ h => h) (Or.inl ⟨by rfl, ?hy5_26⟩) (by assumption) ?rest5_26
      case hy5_26 => intro w hSw; go_simp; (try with_reducible rfl)
      simp only [List.getElem_toArray, List.getElem_cons_zero, List.getElem_cons_succ, Act.put, List.setIfInBounds_toArray, List.set_cons_zero, List.set_cons_succ]
      refine wpAnyH_take (i := 6) (v := ?v6_27) rfl (by kernel_rfl) (by kernel_rfl) (by kernel_rfl) (fun _ _ _ h => h) (Or.inl ⟨by rfl, ?hy6_27⟩) (by assumption) ?rest6_27
      case hy6_27 => intro w hSw; go_simp; (try with_reducible rfl)
      simp only [List.getElem_toArray, List.getElem_cons_zero, List.getElem_cons_succ, Act.put, List.setIfInBounds_toArray, List.set_cons_zero, List.set_cons_succ]
      refine wpAnyH_take (i := 7) (v := ?v7_28) rfl (by kernel_rfl) (by kernel_rfl) (by kernel_rfl) (fun _ _ _ h => h) (Or.inl ⟨by rfl, ?hy7_28⟩) (by assumption) ?rest7_28
      case hy7_28 => intro w hSw; go_simp; (try with_reducible rfl)
      simp only [List.getElem_toArray, List.getElem_cons_zero, List.getElem_cons_succ, Act.put, List.setIfInBounds_toArray, List.set_cons_zero, List.set_cons_succ]
      refine wpAnyH_take (i := 8) (v := ?v8_29) rfl (by kernel_rfl) (by kernel_rfl) (by kernel_rfl) (fun _ _ _ h => h) (Or.inl ⟨by rfl, ?hy8_29⟩) (by assumption) ?rest8_29
      case hy8_29 => intro w hSw; go_simp; (try with_reducible rfl)
      simp only [List.getElem_toArray, List.getElem_cons_zero, List.getElem_cons_succ, Act.put, List.setIfInBounds_toArray, List.set_cons_zero, List.set_cons_succ]
      refine wpAnyH_take (i := 9) (v := ?v9_30) rfl (by kernel_rfl) (by kernel_rfl) (by kernel_rfl) (fun _ _ _ h => h) (Or.inl ⟨by rfl, ?hy9_30⟩) (by assumption) ?rest9_30
      case hy9_30 => intro w hSw; go_simp; (try with_reducible rfl)
      simp only [List.getElem_toArray, List.getElem_cons_zero, List.getElem_cons_succ, Act.put, List.setIfInBounds_toArray, List.set_cons_zero, List.set_cons_succ]
      refine wpAnyH_take (i := 10) (v := undef) rfl (by kernel_rfl) (by kernel_rfl) (by kernel_rfl) (fun _ _ _ h => h) (Or.inr ⟨by rfl, rfl⟩) (by assumption) ?_
      simp only [List.getElem_toArray, List.getElem_cons_zero, List.getElem_cons_succ, Act.put, List.setIfInBounds_toArray, List.set_cons_zero, List.set_cons_succ]
      refine wpAnyH_take (i := 11) (v := undef) rfl (by kernel_rfl) (by kernel_rfl) (by kernel_rfl) (fun _ _ _ h => h) (Or.inr ⟨by rfl, rfl⟩) (by assumption) ?_
      simp only [List.getElem_toArray, List.getElem_cons_zero, List.getElem_cons_succ, Act.put, List.setIfInBounds_toArray, List.set_cons_zero, List.set_cons_succ]
      refine wpAnyH_take (i := 12) (v := undef) rfl (by kernel_rfl) (by kernel_rfl) (by kernel_rfl) (fun _ _ _ h => h) (Or.inr ⟨by rfl, rfl⟩) (by assumption) ?_
      simp only [List.getElem_toArray, List.getElem_cons_zero, List.getElem_cons_succ, Act.put, List.setIfInBounds_toArray, List.set_cons_zero, List.set_cons_succ]
      refine wpAnyH_take (i := 13) (v := undef) rfl (by kernel_rfl) (by kernel_rfl) (by kernel_rfl) (fun _ _ _ h => h) (Or.inr ⟨by rfl, rfl⟩) (by assumption) ?_
      simp only [List.getElem_toArray, List.getElem_cons_zero, List.getElem_cons_succ, Act.put, List.setIfInBounds_toArray, List.set_cons_zero, List.set_cons_succ]
      refine wpAnyH_take (i := 14) (v := undef) rfl (by kernel_rfl) (by kernel_rfl) (by kernel_rfl) (fun _ _ _ h => h) (Or.inr ⟨by rfl, rfl⟩) (by assumption) ?_
      simp only [List.getElem_toArray, List.getElem_cons_zero, List.getElem_cons_succ, Act.put, List.setIfInBounds_toArray, List.set_cons_zero, List.set_cons_succ]
      refine wpAnyH_take (i := 15) (v := undef) rfl (by kernel_rfl) (by kernel_rfl) (by kernel_rfl) (fun _ _ _ h => h) (Or.inr ⟨by rfl, rfl⟩) (by assumption) ?_
      simp only [List.getElem_toArray, List.getElem_cons_zero, List.getElem_cons_succ, Act.put, List.setIfInBounds_toArray, List.set_cons_zero, List.set_cons_succ]
      refine wpAnyH_take (i := 16) (v := undef) rfl (by kernel_rfl) (by kernel_rfl) (by kernel_rfl) (fun _ _ _ h => h) (Or.inr ⟨by rfl, rfl⟩) (by assumption) ?_
      simp only [List.getElem_toArray, List.getElem_cons_zero, List.getElem_cons_succ, Act.put, List.setIfInBounds_toArray, List.set_cons_zero, List.set_cons_succ]
      refine wpAnyH_take (i := 17) (v := undef) rfl (by kernel_rfl) (by kernel_rfl) (by kernel_rfl) (fun _ _ _ h => h) (Or.inr ⟨by rfl, rfl⟩) (by assumption) ?_
      simp only [List.getElem_toArray, List.getElem_cons_zero, List.getElem_cons_succ, Act.put, List.setIfInBounds_toArray, List.set_cons_zero, List.set_cons_succ]
      refine wpAnyH_take (i := 18) (v := undef) rfl (by kernel_rfl) (by kernel_rfl) (by kernel_rfl) (fun _ _ _ h => h) (Or.inr ⟨by rfl, rfl⟩) (by assumption) ?_
      simp only [List.getElem_toArray, List.getElem_cons_zero, List.getElem_cons_succ, Act.put, List.setIfInBounds_toArray, List.set_cons_zero, List.set_cons_succ]
      refine wpAnyH_take (i := 19) (v := undef) rfl (by kernel_rfl) (by kernel_rfl) (by kernel_rfl) (fun _ _ _ h => h) (Or.inr ⟨by rfl, rfl⟩) (by assumption) ?_
      simp only [List.getElem_toArray, List.getElem_cons_zero, List.getElem_cons_succ, Act.put, List.setIfInBounds_toArray, List.set_cons_zero, List.set_cons_succ]
      refine wpAnyH_take (i := 20) (v := undef) rfl (by kernel_rfl) (by kernel_rfl) (by kernel_rfl) (fun _ _ _ h => h) (Or.inr ⟨by rfl, rfl⟩) (by assumption) ?_
      simp only [List.getElem_toArray, List.getElem_cons_zero, List.getElem_cons_succ, Act.put, List.setIfInBounds_toArray, List.set_cons_zero, List.set_cons_succ]
      refine wpAnyH_take (i := 21) (v := undef) rfl (by kernel_rfl) (by kernel_rfl) (by kernel_rfl) (fun _ _ _ h => h) (Or.inr ⟨by rfl, rfl⟩) (by assumption) ?_
      simp only [List.getElem_toArray, List.getElem_cons_zero, List.getElem_cons_succ, Act.put, List.setIfInBounds_toArray, List.set_cons_zero, List.set_cons_succ]
      refine wpAnyH_take (i := 22) (v := undef) rfl (by kernel_rfl) (by kernel_rfl) (by kernel_rfl) (fun _ _ _ h => h) (Or.inr ⟨by rfl, rfl⟩) (by assumption) ?_
      simp only [List.getElem_toArray, List.getElem_cons_zero, List.getElem_cons_succ, Act.put, List.setIfInBounds_toArray, List.set_cons_zero, List.set_cons_succ]
      refine wpAnyH_take (i := 23) (v := ?v23_31) rfl (by kernel_rfl) (by kernel_rfl) (by kernel_rfl) (fun _ _ _ h => h) (Or.inl ⟨by rfl, ?hy23_31⟩) (by assumption) ?rest23_31
      case hy23_31 => intro w hSw; go_simp; (try with_reducible rfl)
      simp only [List.getElem_toArray, List.getElem_cons_zero, List.getElem_cons_succ, Act.put, List.setIfInBounds_toArray, List.set_cons_zero, List.set_cons_succ]
      refine wpAnyH_take (i := 24) (v := ?v24_32) rfl (by kernel_rfl) (by kernel_rfl) (by kernel_rfl) (fun _ _ _ h => h) (Or.inl ⟨by rfl, ?hy24_32⟩) (by assumption) ?rest24_32
      case hy24_32 => intro w hSw; go_simp; (try with_reducible rfl)
      simp only [List.getElem_toArray, List.getElem_cons_zero, List.getElem_cons_succ, Act.put, List.setIfInBounds_toArray, List.set_cons_zero, List.set_cons_succ]
      refine wpAnyH_take (i := 25) (v := ?v25_33) rfl (by kernel_rfl) (by kernel_rfl) (by kernel_rfl) (fun _ _ _ h => h) (Or.inl ⟨by rfl, ?hy25_33⟩) (by assumption) ?rest25_33
      case hy25_33 => intro w hSw; go_simp; (try with_reducible rfl)
      simp only [List.getElem_toArray, List.getElem_cons_zero, List.getElem_cons_succ, Act.put, List.setIfInBounds_toArray, List.set_cons_zero, List.set_cons_succ]
      refine wpAnyH_take (i := 26) (v := ?v26_34) rfl (by kernel_rfl) (by kernel_rfl) (by kernel_rfl) (fun _ _ _ h => h) (Or.inl ⟨by rfl, ?hy26_34⟩) (by assumption) ?rest26_34
      case hy26_34 => intro w hSw; go_simp; (try with_reducible rfl)
      simp only [List.getElem_toArray, List.getElem_cons_zero, List.getElem_cons_succ, Act.put, List.setIfInBounds_toArray, List.set_cons_zero, List.set_cons_succ]
      refine wpAnyH_take (i := 27) (v := ?v27_35) rfl (by kernel_rfl) (by kernel_rfl) (by kernel_rfl) (fun _ _ _ h => h) (Or.inl ⟨by rfl, ?hy27_35⟩) (by assumption) ?rest27_35
      case hy27_35 => intro w hSw; go_simp; (try with_reducible rfl)
      simp only [List.getElem_toArray, List.getElem_cons_zero, List.getElem_cons_succ, Act.put, List.setIfInBounds_toArray, List.set_cons_zero, List.set_cons_succ]
      refine wpAnyH_take (i := 28) (v := ?v28_36) rfl (by kernel_rfl) (by kernel_rfl) (by kernel_rfl) (fun _ _ _ h => h) (Or.inl ⟨by rfl, ?hy28_36⟩) (by assumption) ?rest28_36
      case hy28_36 => intro w hSw; go_simp; (try with_reducible rfl)
      simp only [List.getElem_toArray, List.getElem_cons_zero, List.getElem_cons_succ, Act.put, List.setIfInBounds_toArray, List.set_cons_zero, List.set_cons_succ]
      refine wpAnyH_take (i := 29) (v := ?v29_37) rfl (by kernel_rfl) (by kernel_rfl) (by kernel_rfl) (fun _ _ _ h => h) (Or.inl ⟨by rfl, ?hy29_37⟩) (by assumption) ?rest29_37
      case hy29_37 => intro w hSw; go_simp; (try with_reducible rfl)
      simp only [List.getElem_toArray, List.getElem_cons_zero, List.getElem_cons_succ, Act.put, List.setIfInBounds_toArray, List.set_cons_zero, List.set_cons_succ]
      refine wpAnyH_take (i := 30) (v := ?v30_38) rfl (by kernel_rfl) (by kernel_rfl) (by kernel_rfl) (fun _ _ _ h => h) (Or.inl ⟨by rfl, ?hy30_38⟩) (by assumption) ?rest30_38
      case hy30_38 => intro w hSw; go_simp; (try with_reducible rfl)
      simp only [List.getElem_toArray, List.getElem_cons_zero, List.getElem_cons_succ, Act.put, List.setIfInBounds_toArray, List.set_cons_zero, List.set_cons_succ]
      refine wpAnyH_take (i := 31) (v := ?v31_39) rfl (by kernel_rfl) (by kernel_rfl) (by kernel_rfl) (fun _ _ _ h => h) (Or.inl ⟨by rfl, ?hy31_39⟩) (by assumption) ?rest31_39
      case hy31_39 => intro w hSw; go_simp; (try with_reducible rfl)
      simp only [List.getElem_toArray, List.getElem_cons_zero, List.getElem_cons_succ, Act.put, List.setIfInBounds_toArray, List.set_cons_zero, List.set_cons_succ]
      refine wpAnyH_take (i := 32) (v := ?v32_40) rfl (by kernel_rfl) (by kernel_rfl) (by kernel_rfl) (fun _ _ _ h => h) (Or.inl ⟨by rfl, ?hy32_40⟩) (by assumption) ?rest32_40
      case hy32_40 => intro w hSw; go_simp; (try with_reducible rfl)
      simp only [List.getElem_toArray, List.getElem_cons_zero, List.getElem_cons_succ, Act.put, List.setIfInBounds_toArray, List.set_cons_zero, List.set_cons_succ]
      refine wpAnyH_take (i := 33) (v := ?v33_41) rfl (by kernel_rfl) (by kernel_rfl) (by kernel_rfl) (fun _ _ _ h => h) (Or.inl ⟨by rfl, ?hy33_41⟩) (by assumption) ?rest33_41
      case hy33_41 => intro w hSw; go_simp; (try with_reducible rfl)
      simp only [List.getElem_toArray, List.getElem_cons_zero, List.getElem_cons_succ, Act.put, List.setIfInBounds_toArray, List.set_cons_zero, List.set_cons_succ]
      refine wpAnyH_take (i := 34) (v := ?v34_42) rfl (by kernel_rfl) (by kernel_rfl) (by kernel_rfl) (fun _ _ _ h => h) (Or.inl ⟨by rfl, ?hy34_42⟩) (by assumption) ?rest34_42
      case hy34_42 => intro w hSw; go_simp; (try with_reducible rfl)
      simp only [List.getElem_toArray, List.getElem_cons_zero, List.getElem_cons_succ, Act.put, List.setIfInBounds_toArray, List.set_cons_zero, List.set_cons_succ]
      refine wpAnyH_take (i := 35) (v := ?v35_43) rfl (by kernel_rfl) (by kernel_rfl) (by kernel_rfl) (fun _ _ _ h => h) (Or.inl ⟨by rfl, ?hy35_43⟩) (by assumption) ?rest35_43
      case hy35_43 => intro w hSw; go_simp; (try with_reducible rfl)
      simp only [List.getElem_toArray, List.getElem_cons_zero, List.getElem_cons_succ, Act.put, List.setIfInBounds_toArray, List.set_cons_zero, List.set_cons_succ]
      refine wpAnyH_ready (rs := [36]) (by kernel_rfl) (by simp) ?_
      refine AllReadyH.cons rfl (fun K hK => ?_) AllReadyH.nil
      go_simp
      refine (D1.out _ (And.left (by assumption))).mono ?_
      rintro e wv ⟨rfl, hb⟩
      refine hK.out _ _ (KS.out _ (KT.out _ _ (And.left (by assumption)) hb)) (fun hHeld => ?_)
      clear hK K
      refine wpAnyH_take (i := 37) (v := ?v37_44) rfl (by kernel_rfl) (by kernel_rfl) (by kernel_rfl) (fun _ _ _ h => h) (Or.inl ⟨by rfl, ?hy37_44⟩) (by assumption) ?rest37_44
      case hy37_44 => intro w hSw; go_simp; (try with_reducible rfl)
      simp only [List.getElem_toArray, List.getElem_cons_zero, List.getElem_cons_succ, Act.put, List.setIfInBounds_toArray, List.set_cons_zero, List.set_cons_succ]
      refine wpAnyH_take (i := 38) (v := ?v38_45) rfl (by kernel_rfl) (by kernel_rfl) (by kernel_rfl) (fun _ _ _ h => h) (Or.inl ⟨by rfl, ?hy38_45⟩) (by assumption) ?rest38_45
      case hy38_45 => intro w hSw; go_simp; (try with_reducible rfl)
      simp only [List.getElem_toArray, List.getElem_cons_zero, List.getElem_cons_succ, Act.put, List.setIfInBounds_toArray, List.set_cons_zero, List.set_cons_succ]
      refine wpAnyH_done (by kernel_rfl) ?_ _
      refine NoPanic.normal ?_
      have Be := hHeld.1
      clear hHeld
      go_wp2
      go_ret
      exact ⟨rfl, BH.out.trans (Be.mono BH.out.size)⟩
    obtain ⟨m, hm4⟩ := Int.eq_ofNat_of_zero_le (show 0 ≤ i4 by omega)
    have hmq : m < q5.length := by have := hl5.out; omega
    have hpm : pageAt (q5.map PgV.pg) i4 = ⟨true, bn4, ys4⟩ := by rw [e5, hm4, putV_yes (by rw [List.length_map]; omega)]; unfold pageAt; rw [if_pos (by omega), Int.toNat_natCast, List.getElem?_set_self (by rw [List.length_map]; omega)]; rfl
    obtain ⟨pb, poff, p, hpa, hpl, hp, -, d0, -, -⟩ := rdP_at o5.rd hmq
    have hu : p.used = true := by
      have h1 := pageAt_yes hp
      rw [hm4] at hpm
      rw [hpm] at h1
      show p.pg.used = true
      rw [← h1]
    rw [hu] at d0
    have D2 := Lib.hid (fun (V : World) (b : Below wd.heap.size wd V) => show Calls Try.prog 25 #[.agg #[.int .i64 root4, .slice a5 q5.length c5], .int .i64 i4] V (NewNode bn4 ys4 V) from by have := iNodeAt_any root4 i4 a5 _ c5 q5 V (o5.rd.below b) (wf_small _ (by omega) (by omega)) (big_put ln4 tn4 hy4 o5 e5).2; rw [hpm] at this; exact this)
    have D3 := Lib.hid (fun (V : World) (b : Below wd.heap.size wd V) => (rdS_ownsP on4).below b)
    rw [hpa] at D2
    have hpa' := hpa
    rw [hpa] at KS
    have KS2 := Lib.hid (show ∀ V, Below wd.heap.size wd V → (fun V => Below wd.heap.size wd V ∧ V.cell? ⟨w1.heap.size, 0, none⟩ = some (.int .i64 root1) ∧ V.cell? ⟨w1.heap.size, 1, none⟩ = some (.slice a1 q1.length c1) ∧ V.cell? ⟨w4.heap.size, 0, none⟩ = some (.int .i64 root4) ∧ V.cell? ⟨w4.heap.size, 1, none⟩ = some (.slice a4 q4.length c4) ∧ V.cell? ⟨w5.heap.size, 0, none⟩ = some (.int .i64 root4) ∧ V.cell? ⟨w5.heap.size, 1, none⟩ = some (.slice (some ⟨pb, poff, none⟩) q5.length c5) ∧ V.cell? ⟨w4.heap.size + 1, 0, none⟩ = some (.bool bn4) ∧ V.cell? ⟨w4.heap.size + 1, 1, none⟩ = some (.slice an4 ys4.length cn4) ∧ V.cell? ⟨pb, poff + m * 3, none⟩ = some (.bool true)) V from fun V b => by obtain ⟨h0, h1, h2, h3, h4, h5, h6, h7, h8⟩ := KS.out V b; exact ⟨h0, h1, h2, h3, h4, h5, h6, h7, h8, (b.cell (p := ⟨pb, poff + m * 3, none⟩) hpl).trans d0⟩)
    subst hm4
    replace hpa := Lib.hid hpa
    clear hpa'
    have z0 : ¬ ((m : Int) < 0) := by omega
    have z1 : ¬ ((q4.length : Int) ≤ (m : Int)) := by omega
    have z2 : (0 : Int) ≤ m := by omega
    have z3 : (m : Int) < q5.length := by omega
    have z4 : (m : Int) < q4.length := by omega
    clear hp hu hpm KS hi0 hi1
    go_region_held3 (fun V => Below wd.heap.size wd V ∧ V.cell? ⟨w1.heap.size, 0, none⟩ = some (.int .i64 root1) ∧ V.cell? ⟨w1.heap.size, 1, none⟩ = some (.slice a1 q1.length c1) ∧ V.cell? ⟨w4.heap.size, 0, none⟩ = some (.int .i64 root4) ∧ V.cell? ⟨w4.heap.size, 1, none⟩ = some (.slice a4 q4.length c4) ∧ V.cell? ⟨w5.heap.size, 0, none⟩ = some (.int .i64 root4) ∧ V.cell? ⟨w5.heap.size, 1, none⟩ = some (.slice (some ⟨pb, poff, none⟩) q5.length c5) ∧ V.cell? ⟨w4.heap.size + 1, 0, none⟩ = some (.bool bn4) ∧ V.cell? ⟨w4.heap.size + 1, 1, none⟩ = some (.slice an4 ys4.length cn4) ∧ V.cell? ⟨pb, poff + m * 3, none⟩ = some (.bool true))
      (first | exact KS2.out _ (drew_below _) | exact KS2.out _ (KT.out _ _ (And.left (by assumption)) hb))
      (first
        | (go_at_call 25; (with_reducible refine (D2.out _ (by first | exact drew_below _ | exact And.left (by assumption))).mono ?_); rintro e wv ⟨un1, rfl, t1, hb⟩; obtain ⟨x1, n1, rfl, i1⟩ := t1.rd)
        | (go_at_call 24; (with_reducible refine (sameNd_yes _ x1 an4 _ n1 cn4 _ _ i1 (D3.out _ (by first | exact drew_below _ | exact And.left (by assumption)))).mono ?_); rintro e wv ⟨rfl, hb⟩)
        | (go_at_call 19; (with_reducible refine (D1.out _ (by first | exact drew_below _ | exact And.left (by assumption))).mono ?_); rintro e wv ⟨rfl, hb⟩))
    rename_i hS
    have Be := hS.1
    clear hS
    go_wp2
    go_ret
    exact ⟨rfl, BH.out.trans (Be.mono BH.out.size)⟩
  · have hm := h.1.2.2.1
    go_enter Try.func3, Try.ntmps3
    go_wp2_with fail
    refine (big_yes A _ cap _ hn (by have := h.1.2.1; omega)).mono ?_
    rintro e w1 ⟨rfl, rfl⟩
    go_wp2
    go_ret
    exact ⟨rfl, Below.refl _ _⟩
end Go.Proofs.Ytfefggcfeppeiaa
