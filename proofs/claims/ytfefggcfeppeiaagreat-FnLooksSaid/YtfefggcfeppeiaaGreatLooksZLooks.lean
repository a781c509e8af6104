/- FnLooks. -/
import Derived.Test.YtfefggcfeppeiaaGreatLooksDZLooks
import Derived.Test.YtfefggcfeppeiaaGreatLookI8ZLooks
import Derived.Test.YtfefggcfeppeiaaGreatLookI9ZLooks
import Derived.Test.YtfefggcfeppeiaaGreatLookDZLooks
import Derived.Test.YtfefggcfeppeiaaGreatLookI5ZLooks
import Derived.Test.YtfefggcfeppeiaaGreatLookI1ZLooks
import Derived.Test.YtfefggcfeppeiaaGreatSameItemsIZLooks
import Derived.Test.YtfefggcfeppeiaaGreatVisLeZLooks
namespace Go.Proofs.YtfefggcfeppeiaaGreat
open Go.RowKit

theorem fits_facts {w : World} {base : Nat} {v : Value} {q : List PgV} (hf : Fits 523 2000 (q.map PgV.pg)) (o : OwnP w base v q) : q.length ≤ 523 ∧ (∀ p ∈ q, p.n ≤ 2000) ∧ totG (q.map PgV.pg) ≤ 1046000 := by
  obtain ⟨a, c, rfl⟩ := o.shape
  have h0 := hf.1
  rw [List.length_map] at h0
  refine ⟨h0, fun p hp => ?_, ?_⟩
  · have h1 := hf.2 p.pg (List.mem_map_of_mem hp)
    have h2 : p.xs.length = p.n := (o.rd.2 p hp).1.1
    have h3 : p.pg.xs.length = p.xs.length := rfl
    omega
  · have h1 := totG_cap (q.map PgV.pg) hf.2
    have h3 : (q.map PgV.pg).length * 2000 ≤ 523 * 2000 := Nat.mul_le_mul_right _ hf.1
    omega

theorem sameIt_yes (x y : Option Addr) (n c1 c2 : Nat) (xs : List It) (w : World) (h : RdS itLay w x n c1 xs) (h' : RdS itLay w y n c2 xs) :
    Calls Tryz.prog 13 #[.slice x n c1, .slice y n c2] w fun e w' => e = .returned (.bool true) ∧ Below w.heap.size w w' := by
  have := iSameItems_any x y n n c1 c2 xs xs w h h'
  rw [(sameV_iff xs xs).2 rfl] at this
  exact this
theorem neBox_no (a b c d : Int) (w : World) : (binOp .neq 28 (.agg #[.int .i64 a, .int .i64 b, .int .i64 c, .int .i64 d]) (.agg #[.int .i64 a, .int .i64 b, .int .i64 c, .int .i64 d])).run Tryz.prog w = .ok (.bool false) w := by
  rw [neBox_run, boxEq_self]
  rfl
theorem search_meets (l : List Pg) (root : Int) (c : Bx) (x : It) (h : x ∈ searchV l root c) : meetsB x.x0 x.y0 x.x1 x.y1 c.x0 c.y0 c.x1 c.y1 = true := by
  unfold searchV at h
  split at h
  · unfold hitsV at h
    obtain ⟨p, _, hp⟩ := List.mem_flatMap.1 h
    unfold hitP at hp
    split at hp
    · exact (List.mem_filter.1 hp).2
    · cases hp
  · cases h
theorem iFind_f (root id : Int) (a : Option Addr) (n cap : Nat) (ps : List PgV) (w : World) (h : RdP w a n cap ps) (h1 : n ≤ 1048576) (h2 : ∀ p ∈ ps, p.n ≤ 1048576) (h3 : totG (ps.map PgV.pg) ≤ 1048576) (f0 f1 f2 f3 : Int) (fb : Bool) (e : findV (ps.map PgV.pg) root id = (⟨f0, f1, f2, f3⟩, fb)) :
    Calls Tryz.prog 8 #[.agg #[.int .i64 root, .slice a n cap], .int .i64 id] w fun e w' => e = .returned (.tuple #[.agg #[.int .i64 f0, .int .i64 f1, .int .i64 f2, .int .i64 f3], .bool fb]) ∧ Below w.heap.size w w' := by
  have := iFind_any root id a n cap ps w h h1 h2 h3
  rw [e] at this
  exact this
theorem sFind_f (root id : Int) (a : Option Addr) (n cap : Nat) (ps : List PgV) (w : World) (h : RdP w a n cap ps) (h1 : n ≤ 1048576) (h2 : ∀ p ∈ ps, p.n ≤ 1048576) (h3 : totG (ps.map PgV.pg) ≤ 1048576) (f0 f1 f2 f3 : Int) (fb : Bool) (e : findV (ps.map PgV.pg) root id = (⟨f0, f1, f2, f3⟩, fb)) :
    Calls Tryz.prog 9 #[.agg #[.int .i64 root, .slice a n cap], .int .i64 id] w fun e w' => e = .returned (.tuple #[.agg #[.int .i64 f0, .int .i64 f1, .int .i64 f2, .int .i64 f3], .bool fb]) ∧ Below w.heap.size w w' := by
  have := sFind_c root id a n cap ps w h h1 h2 h3
  rw [e] at this
  exact this
theorem new_small (a : Option Addr) (c : Nat) (p : List PgV) (w : World) (h : RdP w a p.length c p) (e : p.map PgV.pg = [⟨true, true, []⟩]) : p.length ≤ 1048576 ∧ (∀ x ∈ p, x.n ≤ 1048576) ∧ totG (p.map PgV.pg) ≤ 1048576 := by
  have hl : p.length = 1 := by have := congrArg List.length e; simpa using this
  refine ⟨by omega, fun x hx => ?_, by rw [e]; decide⟩
  have h1 : x.pg = ⟨true, true, []⟩ := by
    have := List.mem_map_of_mem (f := PgV.pg) hx
    rw [e] at this
    exact List.mem_singleton.1 this
  have h2 : x.xs.length = x.n := (h.2 x hx).1.1
  have h3 : x.pg.xs = x.xs := rfl
  rw [h1] at h3
  rw [← h2, ← h3]
  exact Nat.zero_le _
theorem newAll (a : Option Addr) (c : Nat) (p : List PgV) (w : World) (h : RdP w a p.length c p) (e : p.map PgV.pg = [⟨true, true, []⟩]) :
    Calls Tryz.prog 15 #[.agg #[.int .i64 0, .slice a p.length c]] w fun e w' => ∃ (y : Option Addr) (m : Nat), e = .returned (.slice y 0 m) ∧ Below w.heap.size w w' := by
  obtain ⟨h1, h2, h3⟩ := new_small a c p w h e
  have H := iAll_any 0 a p.length c p w h h1 h2 h3
  rw [e] at H
  refine H.mono ?_
  rintro e w' ⟨v, rfl, o, hb⟩
  obtain ⟨y, m, rfl, -⟩ := o.rd
  exact ⟨y, m, by rw [show allV [⟨true, true, []⟩] 0 = [] by decide]; rfl, hb⟩
theorem newDeep (a : Option Addr) (c : Nat) (p : List PgV) (w : World) (h : RdP w a p.length c p) (e : p.map PgV.pg = [⟨true, true, []⟩]) :
    Calls Tryz.prog 20 #[.agg #[.int .i64 0, .slice a p.length c]] w fun e w' => e = .returned (.int .i64 1) ∧ Below w.heap.size w w' := by
  obtain ⟨h1, h2, h3⟩ := new_small a c p w h e
  have H := iDeep_c 0 a p.length c p w h h1 h2 h3
  rw [e] at H
  exact H

set_option maxRecDepth 100000 in
set_option maxHeartbeats 6400000 in
theorem fnLooks_walk (C11 : L11Any) (A : Option Addr) (len cap : Nat) (zs : List Int) (w : World) (h : RdI .u8 w A len cap zs) (hz : ∀ z ∈ zs, 0 ≤ z ∧ z ≤ 255) :
    Calls Tryz.prog 3 #[.slice A len cap] w fun e w' => e = .returned (.bool true) ∧ Below w.heap.size w w' := by
  have hln := h.1.1
  subst hln
  by_cases hn : zs.length ≤ 1048576
  · have hR := h
    go_enter Tryz.func3, Tryz.ntmps3
    go_wp2_with fail
    refine (big_no A _ cap _ hn).mono ?_
    rintro e w0 ⟨rfl, rfl⟩
    have B := Below.refl w.heap.size w
    replace hR := Lib.hid h
    clear h
    go_wp2_with fail
    refine (drawSearch_any C11 A cap zs _ (hR.out.below B) hz hn).mono ?_
    rintro e w1 ⟨root1, v1, q1, p0, p1, p2, p3, rfl, hp4, hf1, o1, b1⟩
    obtain ⟨a1, c1, rfl⟩ := o1.shape
    have Fo1 := o1.frame
    obtain ⟨ln1, pn1, tn1⟩ := fits_facts hf1 o1
    have s1 := b1.size
    have l1 := B.size
    replace B := B.trans (b1.mono B.size)
    clear b1
    have bb := new_below w1 (.cells #[.int .i64 root1, .slice a1 q1.length c1] 26)
    have KB := (blk_new w1 #[.int .i64 root1, .slice a1 q1.length c1] 26).1
    have FKB := cells_frame w1.heap.size (fun o => (#[.int .i64 root1, .slice a1 q1.length c1] : Array Value)[o]?)
    have hB : w1.heap.size < (w1.alloc (.cells #[.int .i64 root1, .slice a1 q1.length c1] 26)).heap.size := by simp
    replace o1 := Fo1.kept o1 bb (by omega)
    replace B := B.trans (bb.mono B.size)
    clear bb
    obtain ⟨wn, hwn⟩ : ∃ wn, wn = (w1.alloc (.cells #[.int .i64 root1, .slice a1 q1.length c1] 26)) := ⟨_, rfl⟩
    rw [← hwn] at o1 KB hB B
    have swn : wn.heap.size = w1.heap.size + 1 := by rw [hwn]; simp
    have bb := new_below wn (.cells #[.int .i64 p0, .int .i64 p1, .int .i64 p2, .int .i64 p3] 28)
    have KW := (blk_new wn #[.int .i64 p0, .int .i64 p1, .int .i64 p2, .int .i64 p3] 28).1
    have FKW := cells_frame wn.heap.size (fun o => (#[.int .i64 p0, .int .i64 p1, .int .i64 p2, .int .i64 p3] : Array Value)[o]?)
    have hW : wn.heap.size < (wn.alloc (.cells #[.int .i64 p0, .int .i64 p1, .int .i64 p2, .int .i64 p3] 28)).heap.size := by simp
    replace o1 := Fo1.kept o1 bb (by omega)
    replace KB := FKB.kept KB bb (by omega)
    replace B := B.trans (bb.mono B.size)
    clear bb
    rw [swn] at KW FKW hW
    go_wp2_with fail
    rw [← hwn]
    clear hwn
    refine (iSearch_any root1 ⟨p0, p1, p2, p3⟩ a1 _ c1 q1 _ o1.rd (by omega) (fun p hp => Nat.le_trans (pn1 p hp) (by decide)) (by omega)).mono ?_
    rintro e w2 ⟨v2, rfl, o2, b2⟩
    obtain ⟨xs, hxs⟩ : ∃ xs, searchV (q1.map PgV.pg) root1 ⟨p0, p1, p2, p3⟩ = xs := ⟨_, rfl⟩
    rw [hxs] at o2
    obtain ⟨a2, c2, rfl, -⟩ := o2.rd
    have Fo2 := OwnS.frame o2
    have s2 := b2.size
    have l2 := B.size
    replace o1 := Fo1.kept o1 b2 (by omega)
    replace KB := FKB.kept KB b2 (by omega)
    replace KW := FKW.kept KW b2 (by omega)
    replace B := B.trans (b2.mono B.size)
    clear b2
    go_wp2_with fail
    refine (drawFind_any C11 A cap zs _ (hR.out.below B) hz hn).mono ?_
    rintro e w3 ⟨root3, id, v3, q3, rfl, ilo, ihi, hf3, o3, b3⟩
    obtain ⟨a3, c3, rfl⟩ := o3.shape
    have Fo3 := o3.frame
    obtain ⟨ln3, pn3, tn3⟩ := fits_facts hf3 o3
    have s3 := b3.size
    have l3 := B.size
    replace o1 := Fo1.kept o1 b3 (by omega)
    replace KB := FKB.kept KB b3 (by omega)
    replace KW := FKW.kept KW b3 (by omega)
    replace o2 := Fo2.kept o2 b3 (by omega)
    replace B := B.trans (b3.mono B.size)
    clear b3
    have bb := new_below w3 (.cells #[.int .i64 root3, .slice a3 q3.length c3] 26)
    have KC := (blk_new w3 #[.int .i64 root3, .slice a3 q3.length c3] 26).1
    have FKC := cells_frame w3.heap.size (fun o => (#[.int .i64 root3, .slice a3 q3.length c3] : Array Value)[o]?)
    have hC : w3.heap.size < (w3.alloc (.cells #[.int .i64 root3, .slice a3 q3.length c3] 26)).heap.size := by simp
    replace o1 := Fo1.kept o1 bb (by omega)
    replace KB := FKB.kept KB bb (by omega)
    replace KW := FKW.kept KW bb (by omega)
    replace o2 := Fo2.kept o2 bb (by omega)
    replace o3 := Fo3.kept o3 bb (by omega)
    replace B := B.trans (bb.mono B.size)
    clear bb
    obtain ⟨⟨⟨f0, f1, f2, f3⟩, fb⟩, hfr⟩ : ∃ z, findV (q3.map PgV.pg) root3 id = z := ⟨_, rfl⟩
    go_wp2_with fail
    refine (iFind_f root3 id a3 _ c3 q3 _ o3.rd (by omega) (fun p hp => Nat.le_trans (pn3 p hp) (by decide)) (by omega) f0 f1 f2 f3 fb hfr).mono ?_
    rintro e w4 ⟨rfl, b4⟩
    have s4 := b4.size
    have l4 := B.size
    replace o1 := Fo1.kept o1 b4 (by omega)
    replace KB := FKB.kept KB b4 (by omega)
    replace KW := FKW.kept KW b4 (by omega)
    replace o2 := Fo2.kept o2 b4 (by omega)
    replace o3 := Fo3.kept o3 b4 (by omega)
    replace KC := FKC.kept KC b4 (by omega)
    replace B := B.trans (b4.mono B.size)
    clear b4
    have bb := new_below w4 (.cells #[.int .i64 f0, .int .i64 f1, .int .i64 f2, .int .i64 f3] 28)
    have KM := (blk_new w4 #[.int .i64 f0, .int .i64 f1, .int .i64 f2, .int .i64 f3] 28).1
    have FKM := cells_frame w4.heap.size (fun o => (#[.int .i64 f0, .int .i64 f1, .int .i64 f2, .int .i64 f3] : Array Value)[o]?)
    have hM : w4.heap.size < (w4.alloc (.cells #[.int .i64 f0, .int .i64 f1, .int .i64 f2, .int .i64 f3] 28)).heap.size := by simp
    replace o1 := Fo1.kept o1 bb (by omega)
    replace KB := FKB.kept KB bb (by omega)
    replace KW := FKW.kept KW bb (by omega)
    replace o2 := Fo2.kept o2 bb (by omega)
    replace o3 := Fo3.kept o3 bb (by omega)
    replace KC := FKC.kept KC bb (by omega)
    replace B := B.trans (bb.mono B.size)
    clear bb
    go_wp2_with fail
    refine (sFind_f root3 id a3 _ c3 q3 _ o3.rd (by omega) (fun p hp => Nat.le_trans (pn3 p hp) (by decide)) (by omega) f0 f1 f2 f3 fb hfr).mono ?_
    rintro e w5 ⟨rfl, b5⟩
    have s5 := b5.size
    have l5 := B.size
    replace o1 := Fo1.kept o1 b5 (by omega)
    replace KB := FKB.kept KB b5 (by omega)
    replace KW := FKW.kept KW b5 (by omega)
    replace o2 := Fo2.kept o2 b5 (by omega)
    replace o3 := Fo3.kept o3 b5 (by omega)
    replace KC := FKC.kept KC b5 (by omega)
    replace KM := FKM.kept KM b5 (by omega)
    replace B := B.trans (b5.mono B.size)
    clear b5
    have bb := new_below w5 (.cells #[.int .i64 f0, .int .i64 f1, .int .i64 f2, .int .i64 f3] 28)
    have KQ := (blk_new w5 #[.int .i64 f0, .int .i64 f1, .int .i64 f2, .int .i64 f3] 28).1
    have FKQ := cells_frame w5.heap.size (fun o => (#[.int .i64 f0, .int .i64 f1, .int .i64 f2, .int .i64 f3] : Array Value)[o]?)
    have hQ : w5.heap.size < (w5.alloc (.cells #[.int .i64 f0, .int .i64 f1, .int .i64 f2, .int .i64 f3] 28)).heap.size := by simp
    replace o1 := Fo1.kept o1 bb (by omega)
    replace KB := FKB.kept KB bb (by omega)
    replace KW := FKW.kept KW bb (by omega)
    replace o2 := Fo2.kept o2 bb (by omega)
    replace o3 := Fo3.kept o3 bb (by omega)
    replace KC := FKC.kept KC bb (by omega)
    replace KM := FKM.kept KM bb (by omega)
    replace B := B.trans (bb.mono B.size)
    clear bb
    go_wp2_with fail
    refine (drawAll_any C11 A cap zs _ (hR.out.below B) hz hn).mono ?_
    rintro e w6 ⟨root6, v6, q6, rfl, hf6, o6, b6⟩
    obtain ⟨a6, c6, rfl⟩ := o6.shape
    have Fo6 := o6.frame
    obtain ⟨ln6, pn6, tn6⟩ := fits_facts hf6 o6
    have s6 := b6.size
    have l6 := B.size
    replace o1 := Fo1.kept o1 b6 (by omega)
    replace KB := FKB.kept KB b6 (by omega)
    replace KW := FKW.kept KW b6 (by omega)
    replace o2 := Fo2.kept o2 b6 (by omega)
    replace o3 := Fo3.kept o3 b6 (by omega)
    replace KC := FKC.kept KC b6 (by omega)
    replace KM := FKM.kept KM b6 (by omega)
    replace KQ := FKQ.kept KQ b6 (by omega)
    replace B := B.trans (b6.mono B.size)
    clear b6
    have bb := new_below w6 (.cells #[.int .i64 root6, .slice a6 q6.length c6] 26)
    have KA := (blk_new w6 #[.int .i64 root6, .slice a6 q6.length c6] 26).1
    have FKA := cells_frame w6.heap.size (fun o => (#[.int .i64 root6, .slice a6 q6.length c6] : Array Value)[o]?)
    have hA : w6.heap.size < (w6.alloc (.cells #[.int .i64 root6, .slice a6 q6.length c6] 26)).heap.size := by simp
    replace o1 := Fo1.kept o1 bb (by omega)
    replace KB := FKB.kept KB bb (by omega)
    replace KW := FKW.kept KW bb (by omega)
    replace o2 := Fo2.kept o2 bb (by omega)
    replace o3 := Fo3.kept o3 bb (by omega)
    replace KC := FKC.kept KC bb (by omega)
    replace KM := FKM.kept KM bb (by omega)
    replace KQ := FKQ.kept KQ bb (by omega)
    replace o6 := Fo6.kept o6 bb (by omega)
    replace B := B.trans (bb.mono B.size)
    clear bb
    go_wp2_with fail
    refine (drawLeaves_any C11 A cap zs _ (hR.out.below B) hz hn).mono ?_
    rintro e w7 ⟨root7, v7, q7, rfl, hf7, o7, b7⟩
    obtain ⟨a7, c7, rfl⟩ := o7.shape
    have Fo7 := o7.frame
    obtain ⟨ln7, pn7, tn7⟩ := fits_facts hf7 o7
    have s7 := b7.size
    have l7 := B.size
    replace o1 := Fo1.kept o1 b7 (by omega)
    replace KB := FKB.kept KB b7 (by omega)
    replace KW := FKW.kept KW b7 (by omega)
    replace o2 := Fo2.kept o2 b7 (by omega)
    replace o3 := Fo3.kept o3 b7 (by omega)
    replace KC := FKC.kept KC b7 (by omega)
    replace KM := FKM.kept KM b7 (by omega)
    replace KQ := FKQ.kept KQ b7 (by omega)
    replace o6 := Fo6.kept o6 b7 (by omega)
    replace KA := FKA.kept KA b7 (by omega)
    replace B := B.trans (b7.mono B.size)
    clear b7
    have bb := new_below w7 (.cells #[.int .i64 root7, .slice a7 q7.length c7] 26)
    have KL := (blk_new w7 #[.int .i64 root7, .slice a7 q7.length c7] 26).1
    have FKL := cells_frame w7.heap.size (fun o => (#[.int .i64 root7, .slice a7 q7.length c7] : Array Value)[o]?)
    have hL : w7.heap.size < (w7.alloc (.cells #[.int .i64 root7, .slice a7 q7.length c7] 26)).heap.size := by simp
    replace o1 := Fo1.kept o1 bb (by omega)
    replace KB := FKB.kept KB bb (by omega)
    replace KW := FKW.kept KW bb (by omega)
    replace o2 := Fo2.kept o2 bb (by omega)
    replace o3 := Fo3.kept o3 bb (by omega)
    replace KC := FKC.kept KC bb (by omega)
    replace KM := FKM.kept KM bb (by omega)
    replace KQ := FKQ.kept KQ bb (by omega)
    replace o6 := Fo6.kept o6 bb (by omega)
    replace KA := FKA.kept KA bb (by omega)
    replace o7 := Fo7.kept o7 bb (by omega)
    replace B := B.trans (bb.mono B.size)
    clear bb
    go_wp2_with fail
    refine (drawDeep_any C11 A cap zs _ (hR.out.below B) hz hn).mono ?_
    rintro e w8 ⟨root8, v8, q8, rfl, hf8, o8, b8⟩
    obtain ⟨a8, c8, rfl⟩ := o8.shape
    have Fo8 := o8.frame
    obtain ⟨ln8, pn8, tn8⟩ := fits_facts hf8 o8
    have s8 := b8.size
    have l8 := B.size
    replace o1 := Fo1.kept o1 b8 (by omega)
    replace KB := FKB.kept KB b8 (by omega)
    replace KW := FKW.kept KW b8 (by omega)
    replace o2 := Fo2.kept o2 b8 (by omega)
    replace o3 := Fo3.kept o3 b8 (by omega)
    replace KC := FKC.kept KC b8 (by omega)
    replace KM := FKM.kept KM b8 (by omega)
    replace KQ := FKQ.kept KQ b8 (by omega)
    replace o6 := Fo6.kept o6 b8 (by omega)
    replace KA := FKA.kept KA b8 (by omega)
    replace o7 := Fo7.kept o7 b8 (by omega)
    replace KL := FKL.kept KL b8 (by omega)
    replace B := B.trans (b8.mono B.size)
    clear b8
    have bb := new_below w8 (.cells #[.int .i64 root8, .slice a8 q8.length c8] 26)
    have KD := (blk_new w8 #[.int .i64 root8, .slice a8 q8.length c8] 26).1
    have FKD := cells_frame w8.heap.size (fun o => (#[.int .i64 root8, .slice a8 q8.length c8] : Array Value)[o]?)
    have hD : w8.heap.size < (w8.alloc (.cells #[.int .i64 root8, .slice a8 q8.length c8] 26)).heap.size := by simp
    replace o1 := Fo1.kept o1 bb (by omega)
    replace KB := FKB.kept KB bb (by omega)
    replace KW := FKW.kept KW bb (by omega)
    replace o2 := Fo2.kept o2 bb (by omega)
    replace o3 := Fo3.kept o3 bb (by omega)
    replace KC := FKC.kept KC bb (by omega)
    replace KM := FKM.kept KM bb (by omega)
    replace KQ := FKQ.kept KQ bb (by omega)
    replace o6 := Fo6.kept o6 bb (by omega)
    replace KA := FKA.kept KA bb (by omega)
    replace o7 := Fo7.kept o7 bb (by omega)
    replace KL := FKL.kept KL bb (by omega)
    replace o8 := Fo8.kept o8 bb (by omega)
    replace B := B.trans (bb.mono B.size)
    clear bb
    clear KC
    clear o3
    go_upto_region 11 with (fail)
    obtain ⟨W9, hW9⟩ : ∃ W9, (w8.alloc (.cells #[.int .i64 root8, .slice a8 q8.length c8] 26)) = W9 := ⟨_, rfl⟩
    have sW9 : W9.heap.size = w8.heap.size + 1 := by rw [← hW9]; simp
    rw [hW9] at o1 KB KW o2 KM KQ o6 KA o7 KL o8 KD hD B
    rw [hW9]
    clear hW9
    have KS := Lib.hid (show ∀ V, Below W9.heap.size W9 V → (fun V => Below W9.heap.size W9 V ∧ V.cell? ⟨w1.heap.size, 0, none⟩ = some (.int .i64 root1) ∧ V.cell? ⟨w1.heap.size, 1, none⟩ = some (.slice a1 q1.length c1) ∧ V.cell? ⟨w1.heap.size + 1, 0, none⟩ = some (.int .i64 p0) ∧ V.cell? ⟨w1.heap.size + 1, 1, none⟩ = some (.int .i64 p1) ∧ V.cell? ⟨w1.heap.size + 1, 2, none⟩ = some (.int .i64 p2) ∧ V.cell? ⟨w1.heap.size + 1, 3, none⟩ = some (.int .i64 p3) ∧ V.cell? ⟨w4.heap.size, 0, none⟩ = some (.int .i64 f0) ∧ V.cell? ⟨w4.heap.size, 1, none⟩ = some (.int .i64 f1) ∧ V.cell? ⟨w4.heap.size, 2, none⟩ = some (.int .i64 f2) ∧ V.cell? ⟨w4.heap.size, 3, none⟩ = some (.int .i64 f3) ∧ V.cell? ⟨w5.heap.size, 0, none⟩ = some (.int .i64 f0) ∧ V.cell? ⟨w5.heap.size, 1, none⟩ = some (.int .i64 f1) ∧ V.cell? ⟨w5.heap.size, 2, none⟩ = some (.int .i64 f2) ∧ V.cell? ⟨w5.heap.size, 3, none⟩ = some (.int .i64 f3) ∧ V.cell? ⟨w6.heap.size, 0, none⟩ = some (.int .i64 root6) ∧ V.cell? ⟨w6.heap.size, 1, none⟩ = some (.slice a6 q6.length c6) ∧ V.cell? ⟨w7.heap.size, 0, none⟩ = some (.int .i64 root7) ∧ V.cell? ⟨w7.heap.size, 1, none⟩ = some (.slice a7 q7.length c7) ∧ V.cell? ⟨w8.heap.size, 0, none⟩ = some (.int .i64 root8) ∧ V.cell? ⟨w8.heap.size, 1, none⟩ = some (.slice a8 q8.length c8)) V from fun V b => ⟨b, (b.cell (p := ⟨w1.heap.size, 0, none⟩) (by show w1.heap.size < _; omega)).trans (KB 0), (b.cell (p := ⟨w1.heap.size, 1, none⟩) (by show w1.heap.size < _; omega)).trans (KB 1), (b.cell (p := ⟨w1.heap.size + 1, 0, none⟩) (by show w1.heap.size + 1 < _; omega)).trans (KW 0), (b.cell (p := ⟨w1.heap.size + 1, 1, none⟩) (by show w1.heap.size + 1 < _; omega)).trans (KW 1), (b.cell (p := ⟨w1.heap.size + 1, 2, none⟩) (by show w1.heap.size + 1 < _; omega)).trans (KW 2), (b.cell (p := ⟨w1.heap.size + 1, 3, none⟩) (by show w1.heap.size + 1 < _; omega)).trans (KW 3), (b.cell (p := ⟨w4.heap.size, 0, none⟩) (by show w4.heap.size < _; omega)).trans (KM 0), (b.cell (p := ⟨w4.heap.size, 1, none⟩) (by show w4.heap.size < _; omega)).trans (KM 1), (b.cell (p := ⟨w4.heap.size, 2, none⟩) (by show w4.heap.size < _; omega)).trans (KM 2), (b.cell (p := ⟨w4.heap.size, 3, none⟩) (by show w4.heap.size < _; omega)).trans (KM 3), (b.cell (p := ⟨w5.heap.size, 0, none⟩) (by show w5.heap.size < _; omega)).trans (KQ 0), (b.cell (p := ⟨w5.heap.size, 1, none⟩) (by show w5.heap.size < _; omega)).trans (KQ 1), (b.cell (p := ⟨w5.heap.size, 2, none⟩) (by show w5.heap.size < _; omega)).trans (KQ 2), (b.cell (p := ⟨w5.heap.size, 3, none⟩) (by show w5.heap.size < _; omega)).trans (KQ 3), (b.cell (p := ⟨w6.heap.size, 0, none⟩) (by show w6.heap.size < _; omega)).trans (KA 0), (b.cell (p := ⟨w6.heap.size, 1, none⟩) (by show w6.heap.size < _; omega)).trans (KA 1), (b.cell (p := ⟨w7.heap.size, 0, none⟩) (by show w7.heap.size < _; omega)).trans (KL 0), (b.cell (p := ⟨w7.heap.size, 1, none⟩) (by show w7.heap.size < _; omega)).trans (KL 1), (b.cell (p := ⟨w8.heap.size, 0, none⟩) (by show w8.heap.size < _; omega)).trans (KD 0), (b.cell (p := ⟨w8.heap.size, 1, none⟩) (by show w8.heap.size < _; omega)).trans (KD 1)⟩)
    have KT := Lib.hid (show ∀ V V' : World, Below W9.heap.size W9 V → Below V.heap.size V V' → Below W9.heap.size W9 V' from fun V V' b b' => b.trans (b'.mono b.size))
    have C1 := Lib.hid (fun (V : World) (b : Below W9.heap.size W9 V) => show Calls Tryz.prog 14 #[.agg #[.int .i64 root1, .slice a1 q1.length c1], .agg #[.int .i64 p0, .int .i64 p1, .int .i64 p2, .int .i64 p3]] V (NewItems xs V) from by rw [← hxs]; exact sSearch_any root1 ⟨p0, p1, p2, p3⟩ a1 _ c1 q1 V (o1.rd.below b) (by omega) (fun p hp => Nat.le_trans (pn1 p hp) (by decide)) (by omega))
    have C2 := Lib.hid (fun (V : World) (b : Below W9.heap.size W9 V) (y : Option Addr) (m : Nat) (r : RdS itLay V y xs.length m xs) => sameIt_yes a2 y xs.length c2 m xs V ((rdS_ownsP o2).below b) r)
    have C3 := Lib.hid (fun (V : World) (b : Below W9.heap.size W9 V) => iAll_any root6 a6 _ c6 q6 V (o6.rd.below b) (by omega) (fun p hp => Nat.le_trans (pn6 p hp) (by decide)) (by omega))
    have C4 := Lib.hid (fun (V : World) (b : Below W9.heap.size W9 V) => sAll_c root6 a6 _ c6 q6 V (o6.rd.below b) (by omega) (fun p hp => Nat.le_trans (pn6 p hp) (by decide)) (by omega))
    have C6 := Lib.hid (fun (V : World) (b : Below W9.heap.size W9 V) => iLeaves_any root7 a7 _ c7 q7 V (o7.rd.below b) (by omega) (fun p hp => Nat.le_trans (pn7 p hp) (by decide)) (by omega))
    have C7 := Lib.hid (fun (V : World) (b : Below W9.heap.size W9 V) => sLeaves_c root7 a7 _ c7 q7 V (o7.rd.below b) (by omega) (fun p hp => Nat.le_trans (pn7 p hp) (by decide)) (by omega))
    obtain ⟨nd, hnd⟩ : ∃ nd, deepV (q8.map PgV.pg) 12 root8 = nd := ⟨_, rfl⟩
    obtain ⟨nv, hnv⟩ : ∃ nv, visitedV (q1.map PgV.pg) root1 ⟨p0, p1, p2, p3⟩ = nv := ⟨_, rfl⟩
    have C9 := Lib.hid (fun (V : World) (b : Below W9.heap.size W9 V) => show Calls Tryz.prog 20 #[.agg #[.int .i64 root8, .slice a8 q8.length c8]] V (RetN nd V) from by rw [← hnd]; exact iDeep_c root8 a8 _ c8 q8 V (o8.rd.below b) (by omega) (fun p hp => Nat.le_trans (pn8 p hp) (by decide)) (by omega))
    have C10 := Lib.hid (fun (V : World) (b : Below W9.heap.size W9 V) => show Calls Tryz.prog 21 #[.agg #[.int .i64 root8, .slice a8 q8.length c8]] V (RetN nd V) from by rw [← hnd]; exact sDeep_c root8 a8 _ c8 q8 V (o8.rd.below b) (by omega) (fun p hp => Nat.le_trans (pn8 p hp) (by decide)) (by omega))
    have C11b := Lib.hid (fun (V : World) (b : Below W9.heap.size W9 V) => show Calls Tryz.prog 22 #[.agg #[.int .i64 root1, .slice a1 q1.length c1], .agg #[.int .i64 p0, .int .i64 p1, .int .i64 p2, .int .i64 p3]] V (RetN nv V) from by rw [← hnv]; exact iVisited_any root1 ⟨p0, p1, p2, p3⟩ a1 _ c1 q1 V (o1.rd.below b) (by omega) (fun p hp => Nat.le_trans (pn1 p hp) (by decide)) (by omega))
    have C12 := Lib.hid (fun (V : World) (b : Below W9.heap.size W9 V) => show Calls Tryz.prog 23 #[.agg #[.int .i64 root1, .slice a1 q1.length c1], .agg #[.int .i64 p0, .int .i64 p1, .int .i64 p2, .int .i64 p3]] V (RetN nv V) from by rw [← hnv]; exact sVisited_any root1 ⟨p0, p1, p2, p3⟩ a1 _ c1 q1 V (o1.rd.below b) (by omega) (fun p hp => Nat.le_trans (pn1 p hp) (by decide)) (by omega))
    have hne1 : ((nd : Int) != (nd : Int)) = false := bne_self_eq_false _
    have hne2 : ((nv : Int) != (nv : Int)) = false := bne_self_eq_false _
    have hne3 : (fb != fb) = false := bne_self_eq_false _
    have hnb := neBox_no f0 f1 f2 f3
    replace o1 := Lib.hid o1
    replace KB := Lib.hid KB
    replace KW := Lib.hid KW
    replace o2 := Lib.hid o2
    replace KM := Lib.hid KM
    replace KQ := Lib.hid KQ
    replace o6 := Lib.hid o6
    replace KA := Lib.hid KA
    replace o7 := Lib.hid o7
    replace KL := Lib.hid KL
    replace o8 := Lib.hid o8
    replace KD := Lib.hid KD
    replace hxs := Lib.hid hxs
    replace hnd := Lib.hid hnd
    replace hnv := Lib.hid hnv
    replace hfr := Lib.hid hfr
    go_cut [96] (fun s V => ∃ V1 : World, V1 = V ∧ s = .bool false ∧ Below W9.heap.size W9 V)
    case first => as_aux_lemma =>
      go_region_held3 (fun V => Below W9.heap.size W9 V ∧ V.cell? ⟨w1.heap.size, 0, none⟩ = some (.int .i64 root1) ∧ V.cell? ⟨w1.heap.size, 1, none⟩ = some (.slice a1 q1.length c1) ∧ V.cell? ⟨w1.heap.size + 1, 0, none⟩ = some (.int .i64 p0) ∧ V.cell? ⟨w1.heap.size + 1, 1, none⟩ = some (.int .i64 p1) ∧ V.cell? ⟨w1.heap.size + 1, 2, none⟩ = some (.int .i64 p2) ∧ V.cell? ⟨w1.heap.size + 1, 3, none⟩ = some (.int .i64 p3) ∧ V.cell? ⟨w4.heap.size, 0, none⟩ = some (.int .i64 f0) ∧ V.cell? ⟨w4.heap.size, 1, none⟩ = some (.int .i64 f1) ∧ V.cell? ⟨w4.heap.size, 2, none⟩ = some (.int .i64 f2) ∧ V.cell? ⟨w4.heap.size, 3, none⟩ = some (.int .i64 f3) ∧ V.cell? ⟨w5.heap.size, 0, none⟩ = some (.int .i64 f0) ∧ V.cell? ⟨w5.heap.size, 1, none⟩ = some (.int .i64 f1) ∧ V.cell? ⟨w5.heap.size, 2, none⟩ = some (.int .i64 f2) ∧ V.cell? ⟨w5.heap.size, 3, none⟩ = some (.int .i64 f3) ∧ V.cell? ⟨w6.heap.size, 0, none⟩ = some (.int .i64 root6) ∧ V.cell? ⟨w6.heap.size, 1, none⟩ = some (.slice a6 q6.length c6) ∧ V.cell? ⟨w7.heap.size, 0, none⟩ = some (.int .i64 root7) ∧ V.cell? ⟨w7.heap.size, 1, none⟩ = some (.slice a7 q7.length c7) ∧ V.cell? ⟨w8.heap.size, 0, none⟩ = some (.int .i64 root8) ∧ V.cell? ⟨w8.heap.size, 1, none⟩ = some (.slice a8 q8.length c8))
        (first | exact KS.out _ (drew_below _) | exact KS.out _ (KT.out _ _ (And.left (by assumption)) hb))
        (first
          | (go_at_call 14; (with_reducible refine (C1.out _ (by first | exact drew_below _ | exact And.left (by assumption))).mono ?_); rintro e wv ⟨v1, rfl, o1, hb⟩; obtain ⟨y1, m1, rfl, r1⟩ := o1.rd; clear o1)
          | (go_at_call 13; (with_reducible refine (C2.out _ (by first | exact drew_below _ | exact And.left (by assumption)) y1 m1 r1).mono ?_); rintro e wv ⟨rfl, hb⟩)
          | (go_at_call 15; (with_reducible refine (C3.out _ (by first | exact drew_below _ | exact And.left (by assumption))).mono ?_); rintro e wv ⟨v3, rfl, o3, hb⟩; obtain ⟨y3, m3, rfl, r3⟩ := o3.rd; clear o3)
          | (go_at_call 16; (with_reducible refine (C4.out _ (by first | exact drew_below _ | exact And.left (by assumption))).mono ?_); rintro e wv ⟨v4, rfl, o4, hb⟩; obtain ⟨y4, m4, rfl, r4⟩ := o4.rd; clear o4; replace r3 := r3.below hb)
          | (go_at_call 13; (with_reducible refine (sameIt_yes y3 y4 _ m3 m4 _ _ r3 r4).mono ?_); rintro e wv ⟨rfl, hb⟩)
          | (go_at_call 18; (with_reducible refine (C6.out _ (by first | exact drew_below _ | exact And.left (by assumption))).mono ?_); rintro e wv ⟨v6, rfl, o6, hb⟩; obtain ⟨y6, m6, rfl, r6⟩ := Own.rd o6; clear o6)
          | (go_at_call 19; (with_reducible refine (C7.out _ (by first | exact drew_below _ | exact And.left (by assumption))).mono ?_); rintro e wv ⟨v7, rfl, o7, hb⟩; obtain ⟨y7, m7, rfl, r7⟩ := Own.rd o7; clear o7; replace r6 := r6.below hb)
          | (go_at_call 17; (with_reducible refine (sameInts_yes y6 y7 _ m6 m7 _ _ r6 r7).mono ?_); rintro e wv ⟨rfl, hb⟩)
          | (go_at_call 20; (with_reducible refine (C9.out _ (by first | exact drew_below _ | exact And.left (by assumption))).mono ?_); rintro e wv ⟨rfl, hb⟩)
          | (go_at_call 21; (with_reducible refine (C10.out _ (by first | exact drew_below _ | exact And.left (by assumption))).mono ?_); rintro e wv ⟨rfl, hb⟩)
          | (go_at_call 22; (with_reducible refine (C11b.out _ (by first | exact drew_below _ | exact And.left (by assumption))).mono ?_); rintro e wv ⟨rfl, hb⟩)
          | (go_at_call 23; (with_reducible refine (C12.out _ (by first | exact drew_below _ | exact And.left (by assumption))).mono ?_); rintro e wv ⟨rfl, hb⟩))
      all_goals
        rename_i hS
        have hB := hS.1
        clear hS
        go_wp2_with fail
        go_meet
        exact ⟨_, rfl, rfl, hB⟩
    obtain ⟨wc, rfl, rfl, b9⟩ := hcut
    clear C1
    clear C2
    clear C3
    clear C4
    clear C6
    clear C7
    clear C9
    clear C10
    clear C11b
    clear C12
    clear KS
    clear KT
    replace o1 := o1.out
    replace KB := KB.out
    replace KW := KW.out
    replace o2 := o2.out
    replace KM := KM.out
    replace KQ := KQ.out
    replace o6 := o6.out
    replace KA := KA.out
    replace o7 := o7.out
    replace KL := KL.out
    replace o8 := o8.out
    replace KD := KD.out
    have s9 := b9.size
    clear KM
    clear KQ
    clear o6
    clear KA
    clear o7
    clear KL
    clear o8
    clear KD
    replace o1 := Fo1.kept o1 b9 (by omega)
    replace KB := FKB.kept KB b9 (by omega)
    replace KW := FKW.kept KW b9 (by omega)
    replace o2 := Fo2.kept o2 b9 (by omega)
    replace B := B.trans (b9.mono B.size)
    clear b9
    have HS := Lib.hid (rdS_ownsP o2)
    have HM := Lib.hid (show ∀ x ∈ xs, meetsB x.x0 x.y0 x.x1 x.y1 p0 p1 p2 p3 = true from fun x hx => search_meets _ _ ⟨p0, p1, p2, p3⟩ x (by rw [hxs.out]; exact hx))
    have hxm : xs.length ≤ maxLen := Nat.le_trans HS.out.1.2.1 HS.out.1.2.2.1
    unfold maxLen at hxm
    clear o2 Fo2
    have RB := Lib.hid o1.rd
    have BH := Lib.hid B
    clear B
    have hqB : w1.heap.size < wc.heap.size := by omega
    have hqW : w1.heap.size + 1 < wc.heap.size := by omega
    replace KB := Lib.hid KB
    replace KW := Lib.hid KW
    go_wp2_with fail
    go_loopw [15] (fun i wr => ∃ k : Nat, k ≤ xs.length ∧ i = .int .i64 k ∧ Below wc.heap.size wc wr) (fun i _ => xs.length - (intOf i).toNat)
    case atStart => exact ⟨0, Nat.zero_le _, rfl, Below.refl _ _⟩
    case round =>
      obtain ⟨k, hk, rfl, hB⟩ := hrel
      by_cases hlt : k < xs.length
      · obtain ⟨b, off, x, rfl, hbl, hx, d0, d1, d2, d3, d4⟩ := rdIt_at (HS.out.below hB) hlt
        have hmt := HM.out x (List.mem_of_getElem? hx)
        have CM := Lib.hid (fun (V : World) => show Calls Tryz.prog 24 #[.agg #[.int .i64 x.x0, .int .i64 x.y0, .int .i64 x.x1, .int .i64 x.y1], .agg #[.int .i64 p0, .int .i64 p1, .int .i64 p2, .int .i64 p3]] V (fun e w' => e = .returned (.bool true) ∧ Below V.heap.size V w') from by have := iMeets_any x.x0 x.y0 x.x1 x.y1 p0 p1 p2 p3 V; rw [hmt] at this; exact this)
        have e0 := (hB.cell (p := ⟨w1.heap.size + 1, 0, none⟩) hqW).trans (KW.out 0)
        have e1 := (hB.cell (p := ⟨w1.heap.size + 1, 1, none⟩) hqW).trans (KW.out 1)
        have e2 := (hB.cell (p := ⟨w1.heap.size + 1, 2, none⟩) hqW).trans (KW.out 2)
        have e3 := (hB.cell (p := ⟨w1.heap.size + 1, 3, none⟩) hqW).trans (KW.out 3)
        simp at e0 e1 e2 e3
        have hBH := Lib.hid hB
        have hqr : w1.heap.size + 1 < wr.heap.size := by have := hB.size; omega
        have KS := Lib.hid (show ∀ V, Below wr.heap.size wr V → (fun V => Below wr.heap.size wr V ∧ V.cell? ⟨b, off + k * 5 + 1, none⟩ = some (.int .i64 x.x0) ∧ V.cell? ⟨b, off + k * 5 + 1 + 1, none⟩ = some (.int .i64 x.y0) ∧ V.cell? ⟨b, off + k * 5 + 1 + 2, none⟩ = some (.int .i64 x.x1) ∧ V.cell? ⟨b, off + k * 5 + 1 + 3, none⟩ = some (.int .i64 x.y1) ∧ V.cell? ⟨w1.heap.size + 1, 0, none⟩ = some (.int .i64 p0) ∧ V.cell? ⟨w1.heap.size + 1, 1, none⟩ = some (.int .i64 p1) ∧ V.cell? ⟨w1.heap.size + 1, 2, none⟩ = some (.int .i64 p2) ∧ V.cell? ⟨w1.heap.size + 1, 3, none⟩ = some (.int .i64 p3)) V from fun V bb => ⟨bb, (bb.cell (p := ⟨b, off + k * 5 + 1, none⟩) hbl).trans d1, (bb.cell (p := ⟨b, off + k * 5 + 1 + 1, none⟩) hbl).trans d2, (bb.cell (p := ⟨b, off + k * 5 + 1 + 2, none⟩) hbl).trans d3, (bb.cell (p := ⟨b, off + k * 5 + 1 + 3, none⟩) hbl).trans d4, (bb.cell (p := ⟨w1.heap.size + 1, 0, none⟩) hqr).trans e0, (bb.cell (p := ⟨w1.heap.size + 1, 1, none⟩) hqr).trans e1, (bb.cell (p := ⟨w1.heap.size + 1, 2, none⟩) hqr).trans e2, (bb.cell (p := ⟨w1.heap.size + 1, 3, none⟩) hqr).trans e3⟩)
        have KT := Lib.hid (show ∀ V V' : World, Below wr.heap.size wr V → Below V.heap.size V V' → Below wr.heap.size wr V' from fun V V' b b' => b.trans (b'.mono b.size))
        have z0 : (0 : Int) ≤ k := by omega
        have z1 : (k : Int) < xs.length := by omega
        clear hx hmt d0 d1 d2 d3 d4 e0 e1 e2 e3
        go_wp2_with fail
        go_region_held3 (fun V => Below wr.heap.size wr V ∧ V.cell? ⟨b, off + k * 5 + 1, none⟩ = some (.int .i64 x.x0) ∧ V.cell? ⟨b, off + k * 5 + 1 + 1, none⟩ = some (.int .i64 x.y0) ∧ V.cell? ⟨b, off + k * 5 + 1 + 2, none⟩ = some (.int .i64 x.x1) ∧ V.cell? ⟨b, off + k * 5 + 1 + 3, none⟩ = some (.int .i64 x.y1) ∧ V.cell? ⟨w1.heap.size + 1, 0, none⟩ = some (.int .i64 p0) ∧ V.cell? ⟨w1.heap.size + 1, 1, none⟩ = some (.int .i64 p1) ∧ V.cell? ⟨w1.heap.size + 1, 2, none⟩ = some (.int .i64 p2) ∧ V.cell? ⟨w1.heap.size + 1, 3, none⟩ = some (.int .i64 p3))
          (first | exact KS.out _ (drew_below _) | exact KS.out _ (KT.out _ _ (And.left (by assumption)) hb))
          (first | (go_at_call 24; (with_reducible refine (CM.out _).mono ?_); rintro e wv ⟨rfl, hb⟩))
        rename_i hS
        have Be := hS.1
        clear hS
        go_wp2_with fail
        go_roundw
        case rel => exact ⟨k + 1, by omega, by go_num, hBH.out.trans (Be.mono hBH.out.size)⟩
        case measure => simp [intOf]; omega
      · obtain rfl : k = xs.length := by omega
        have e0 := (hB.cell (p := ⟨w1.heap.size, 0, none⟩) hqB).trans (KB.out 0)
        have e1 := (hB.cell (p := ⟨w1.heap.size, 1, none⟩) hqB).trans (KB.out 1)
        have g0 := (hB.cell (p := ⟨w1.heap.size + 1, 0, none⟩) hqW).trans (KW.out 0)
        have g1 := (hB.cell (p := ⟨w1.heap.size + 1, 1, none⟩) hqW).trans (KW.out 1)
        have g2 := (hB.cell (p := ⟨w1.heap.size + 1, 2, none⟩) hqW).trans (KW.out 2)
        have g3 := (hB.cell (p := ⟨w1.heap.size + 1, 3, none⟩) hqW).trans (KW.out 3)
        simp at e0 e1 g0 g1 g2 g3
        have hBH := Lib.hid (BH.out.trans (hB.mono BH.out.size))
        have hsz := hB.size
        have KS := Lib.hid (show ∀ V, Below wr.heap.size wr V → (fun V => Below wr.heap.size wr V ∧ V.cell? ⟨w1.heap.size, 0, none⟩ = some (.int .i64 root1) ∧ V.cell? ⟨w1.heap.size, 1, none⟩ = some (.slice a1 q1.length c1) ∧ V.cell? ⟨w1.heap.size + 1, 0, none⟩ = some (.int .i64 p0) ∧ V.cell? ⟨w1.heap.size + 1, 1, none⟩ = some (.int .i64 p1) ∧ V.cell? ⟨w1.heap.size + 1, 2, none⟩ = some (.int .i64 p2) ∧ V.cell? ⟨w1.heap.size + 1, 3, none⟩ = some (.int .i64 p3)) V from fun V bb => ⟨bb, (bb.cell (p := ⟨w1.heap.size, 0, none⟩) (by show w1.heap.size < _; omega)).trans e0, (bb.cell (p := ⟨w1.heap.size, 1, none⟩) (by show w1.heap.size < _; omega)).trans e1, (bb.cell (p := ⟨w1.heap.size + 1, 0, none⟩) (by show w1.heap.size + 1 < _; omega)).trans g0, (bb.cell (p := ⟨w1.heap.size + 1, 1, none⟩) (by show w1.heap.size + 1 < _; omega)).trans g1, (bb.cell (p := ⟨w1.heap.size + 1, 2, none⟩) (by show w1.heap.size + 1 < _; omega)).trans g2, (bb.cell (p := ⟨w1.heap.size + 1, 3, none⟩) (by show w1.heap.size + 1 < _; omega)).trans g3⟩)
        have KT := Lib.hid (show ∀ V V' : World, Below wr.heap.size wr V → Below V.heap.size V V' → Below wr.heap.size wr V' from fun V V' b b' => b.trans (b'.mono b.size))
        have RBr := Lib.hid (RB.out.below hB)
        have CN := Lib.hid (fun V : World => iBookNew_any V)
        obtain ⟨ok, hok⟩ : ∃ ok, bookOkV (q1.map PgV.pg) root1 = ok := ⟨_, rfl⟩
        have CO := Lib.hid (fun (V : World) (b : Below wr.heap.size wr V) => show Calls Tryz.prog 26 #[.agg #[.int .i64 root1, .slice a1 q1.length c1]] V (RetB ok V) from by rw [← hok]; exact iBookOk_any root1 a1 _ c1 q1 V (RBr.out.below b) (by omega) (fun p hp => Nat.le_trans (pn1 p hp) (by decide)) (by omega))
        have CV := Lib.hid (fun (V : World) (b : Below wr.heap.size wr V) => show Calls Tryz.prog 22 #[.agg #[.int .i64 root1, .slice a1 q1.length c1], .agg #[.int .i64 p0, .int .i64 p1, .int .i64 p2, .int .i64 p3]] V (RetN nv V) from by rw [← hnv.out]; exact iVisited_any root1 ⟨p0, p1, p2, p3⟩ a1 _ c1 q1 V (RBr.out.below b) (by omega) (fun p hp => Nat.le_trans (pn1 p hp) (by decide)) (by omega))
        obtain ⟨nr, hnr⟩ : ∃ nr, nr = (reachV (q1.map PgV.pg) root1).length := ⟨_, rfl⟩
        have CR := Lib.hid (fun (V : World) (b : Below wr.heap.size wr V) => show Calls Tryz.prog 27 #[.agg #[.int .i64 root1, .slice a1 q1.length c1]] V (fun e w' => ∃ (y : Option Addr) (m : Nat), e = .returned (.slice y nr m) ∧ Below V.heap.size V w') from (iReach_any root1 a1 _ c1 q1 V (RBr.out.below b) (by omega) (fun p hp => Nat.le_trans (pn1 p hp) (by decide)) (by omega)).mono (fun e w' ⟨v, he, o, hb⟩ => by obtain ⟨y, m, rfl, -⟩ := Own.rd o; exact ⟨y, m, by rw [he, hnr], hb⟩))
        clear e0 e1 g0 g1 g2 g3
        cases ok with
        | true =>
          have zle : (nv : Int) ≤ (nr : Int) := by have h1 := vis_le_reach ⟨p0, p1, p2, p3⟩ hok 12; have h2 := hnv.out; unfold visitedV at h2; rw [if_pos hok] at h2; omega
          clear hok hnr
          go_wp2_with fail
          go_region_held3 (fun V => Below wr.heap.size wr V ∧ V.cell? ⟨w1.heap.size, 0, none⟩ = some (.int .i64 root1) ∧ V.cell? ⟨w1.heap.size, 1, none⟩ = some (.slice a1 q1.length c1) ∧ V.cell? ⟨w1.heap.size + 1, 0, none⟩ = some (.int .i64 p0) ∧ V.cell? ⟨w1.heap.size + 1, 1, none⟩ = some (.int .i64 p1) ∧ V.cell? ⟨w1.heap.size + 1, 2, none⟩ = some (.int .i64 p2) ∧ V.cell? ⟨w1.heap.size + 1, 3, none⟩ = some (.int .i64 p3))
            (first | exact KS.out _ (drew_below _) | exact KS.out _ (KT.out _ _ (And.left (by assumption)) hb))
            (first
              | (go_at_call 25; (with_reducible refine (CN.out _).mono ?_); rintro e wv ⟨v9, p9, rfl, hp9, o9, hb⟩; obtain ⟨a9, c9, rfl⟩ := o9.shape; have r9 := o9.rd; replace hp9 := Lib.hid hp9; clear o9)
              | (go_at_call 15; (with_reducible refine (newAll a9 c9 p9 _ r9 hp9.out).mono ?_); rintro e wv ⟨y9, m9, rfl, hb⟩)
              | (go_at_call 20; (with_reducible refine (newDeep a9 c9 p9 _ r9 hp9.out).mono ?_); rintro e wv ⟨rfl, hb⟩)
              | (go_at_call 26; (with_reducible refine (CO.out _ (by first | exact drew_below _ | exact And.left (by assumption))).mono ?_); rintro e wv ⟨rfl, hb⟩)
              | (go_at_call 22; (with_reducible refine (CV.out _ (by first | exact drew_below _ | exact And.left (by assumption))).mono ?_); rintro e wv ⟨rfl, hb⟩)
              | (go_at_call 27; (with_reducible refine (CR.out _ (by first | exact drew_below _ | exact And.left (by assumption))).mono ?_); rintro e wv ⟨yr, mr, rfl, hb⟩))
          all_goals
            rename_i hS
            have Be := hS.1
            clear hS
            go_wp2
            go_ret
            exact ⟨rfl, hBH.out.trans (Be.mono hBH.out.size)⟩
        | false =>
          clear hok hnr
          go_wp2_with fail
          refine wp_region_noPanic ?_
          refine wp_region_held_drew (S := fun V => Below wr.heap.size wr V ∧ V.cell? ⟨w1.heap.size, 0, none⟩ = some (.int .i64 root1) ∧ V.cell? ⟨w1.heap.size, 1, none⟩ = some (.slice a1 q1.length c1) ∧ V.cell? ⟨w1.heap.size + 1, 0, none⟩ = some (.int .i64 p0) ∧ V.cell? ⟨w1.heap.size + 1, 1, none⟩ = some (.int .i64 p1) ∧ V.cell? ⟨w1.heap.size + 1, 2, none⟩ = some (.int .i64 p2) ∧ V.cell? ⟨w1.heap.size + 1, 3, none⟩ = some (.int .i64 p3)) (by kernel_rfl) (KS.out _ (drew_below wr)) (fun hHeld => ?_)
          refine wpAnyH_ready (rs := [0]) (by kernel_rfl) (by simp) ?_
          refine AllReadyH.cons rfl (fun K hK => ?_) AllReadyH.nil
          go_simp
          refine (CN.out _).mono ?_
          rintro e wv ⟨v9, p9, rfl, hp9, o9, hb⟩
          obtain ⟨a9, c9, rfl⟩ := o9.shape
          have r9 := Lib.hid o9.rd
          replace hp9 := Lib.hid hp9
          clear o9
          refine hK.out _ _ (KS.out _ (KT.out _ _ (And.left (by assumption)) hb)) (fun hHeld => ?_)
          clear hK K
          refine wpAnyH_ready (rs := [1]) (by kernel_rfl) (by simp) ?_
          refine AllReadyH.cons rfl (fun K hK => ?_) AllReadyH.nil
          go_simp
          refine (newAll a9 c9 p9 _ r9.out hp9.out).mono ?_
          rintro e wv ⟨y9, m9, rfl, hb⟩
          clear r9 hp9
          refine hK.out _ _ (KS.out _ (KT.out _ _ (And.left (by assumption)) hb)) (fun hHeld => ?_)
          clear hK K
          refine wpAnyH_take (i := 2) (v := ?v2_1) rfl (by kernel_rfl) (by kernel_rfl) (by kernel_rfl) (fun _ _ _ h => h) (Or.inl ⟨by rfl, ?hy2_1⟩) (by assumption) ?rest2_1
          case hy2_1 => intro w hSw; go_simp; (try with_reducible rfl)
          simp only [List.getElem_toArray, List.getElem_cons_zero, List.getElem_cons_succ, Act.put, List.setIfInBounds_toArray, List.set_cons_zero, List.set_cons_succ]
          refine wpAnyH_take (i := 3) (v := ?v3_2) rfl (by kernel_rfl) (by kernel_rfl) (by kernel_rfl) (fun _ _ _ h => h) (Or.inl ⟨by rfl, ?hy3_2⟩) (by assumption) ?rest3_2
          case hy3_2 => intro w hSw; go_simp; (try with_reducible rfl)
          simp only [List.getElem_toArray, List.getElem_cons_zero, List.getElem_cons_succ, Act.put, List.setIfInBounds_toArray, List.set_cons_zero, List.set_cons_succ]
          refine wpAnyH_take (i := 4) (v := ?v4_3) rfl (by kernel_rfl) (by kernel_rfl) (by kernel_rfl) (fun _ _ _ h => h) (Or.inl ⟨by rfl, ?hy4_3⟩) (by assumption) ?rest4_3
          case hy4_3 => intro w hSw; go_simp; (try with_reducible rfl)
          simp only [List.getElem_toArray, List.getElem_cons_zero, List.getElem_cons_succ, Act.put, List.setIfInBounds_toArray, List.set_cons_zero, List.set_cons_succ]
          refine wpAnyH_ready (rs := [5]) (by kernel_rfl) (by simp) ?_
          refine AllReadyH.cons rfl (fun K hK => ?_) AllReadyH.nil
          go_simp
          refine (CN.out _).mono ?_
          rintro e wv ⟨v9, p9, rfl, hp9, o9, hb⟩
          obtain ⟨a9, c9, rfl⟩ := o9.shape
          have r9 := Lib.hid o9.rd
          replace hp9 := Lib.hid hp9
          clear o9
          refine hK.out _ _ (KS.out _ (KT.out _ _ (And.left (by assumption)) hb)) (fun hHeld => ?_)
          clear hK K
          refine wpAnyH_ready (rs := [6]) (by kernel_rfl) (by simp) ?_
          refine AllReadyH.cons rfl (fun K hK => ?_) AllReadyH.nil
          go_simp
          refine (newDeep a9 c9 p9 _ r9.out hp9.out).mono ?_
          rintro e wv ⟨rfl, hb⟩
          clear r9 hp9
          refine hK.out _ _ (KS.out _ (KT.out _ _ (And.left (by assumption)) hb)) (fun hHeld => ?_)
          clear hK K
          refine wpAnyH_take (i := 7) (v := ?v7_4) rfl (by kernel_rfl) (by kernel_rfl) (by kernel_rfl) (fun _ _ _ h => h) (Or.inl ⟨by rfl, ?hy7_4⟩) (by assumption) ?rest7_4
          case hy7_4 => intro w hSw; go_simp; (try with_reducible rfl)
          simp only [List.getElem_toArray, List.getElem_cons_zero, List.getElem_cons_succ, Act.put, List.setIfInBounds_toArray, List.set_cons_zero, List.set_cons_succ]
          refine wpAnyH_take (i := 8) (v := ?v8_5) rfl (by kernel_rfl) (by kernel_rfl) (by kernel_rfl) (fun _ _ _ h => h) (Or.inl ⟨by rfl, ?hy8_5⟩) (by assumption) ?rest8_5
          case hy8_5 => intro w hSw; go_simp; (try with_reducible rfl)
          simp only [List.getElem_toArray, List.getElem_cons_zero, List.getElem_cons_succ, Act.put, List.setIfInBounds_toArray, List.set_cons_zero, List.set_cons_succ]
          refine wpAnyH_take (i := 9) (v := ?v9_6) rfl (by kernel_rfl) (by kernel_rfl) (by kernel_rfl) (fun _ _ _ h => h) (Or.inl ⟨by rfl, ?hy9_6⟩) (by assumption) ?rest9_6
          case hy9_6 => intro w hSw; go_simp; (try with_reducible rfl)
          simp only [List.getElem_toArray, List.getElem_cons_zero, List.getElem_cons_succ, Act.put, List.setIfInBounds_toArray, List.set_cons_zero, List.set_cons_succ]
          refine wpAnyH_take (i := 10) (v := ?v10_7) rfl (by kernel_rfl) (by kernel_rfl) (by kernel_rfl) (fun _ _ _ h => h) (Or.inl ⟨by rfl, ?hy10_7⟩) (by assumption) ?rest10_7
          case hy10_7 => intro w hSw; go_simp; (try with_reducible rfl)
          simp only [List.getElem_toArray, List.getElem_cons_zero, List.getElem_cons_succ, Act.put, List.setIfInBounds_toArray, List.set_cons_zero, List.set_cons_succ]
          refine wpAnyH_ready (rs := [11]) (by kernel_rfl) (by simp) ?_
          refine AllReadyH.cons rfl (fun K hK => ?_) AllReadyH.nil
          go_simp
          refine (CO.out _ (And.left (by assumption))).mono ?_
          rintro e wv ⟨rfl, hb⟩
          refine hK.out _ _ (KS.out _ (KT.out _ _ (And.left (by assumption)) hb)) (fun hHeld => ?_)
          clear hK K
          refine wpAnyH_take (i := 12) (v := ?v12_8) rfl (by kernel_rfl) (by kernel_rfl) (by kernel_rfl) (fun _ _ _ h => h) (Or.inl ⟨by rfl, ?hy12_8⟩) (by assumption) ?rest12_8
          case hy12_8 => intro w hSw; go_simp; (try with_reducible rfl)
          simp only [List.getElem_toArray, List.getElem_cons_zero, List.getElem_cons_succ, Act.put, List.setIfInBounds_toArray, List.set_cons_zero, List.set_cons_succ]
          refine wpAnyH_take (i := 13) (v := ?v13_9) rfl (by kernel_rfl) (by kernel_rfl) (by kernel_rfl) (fun _ _ _ h => h) (Or.inl ⟨by rfl, ?hy13_9⟩) (by assumption) ?rest13_9
          case hy13_9 => intro w hSw; go_simp; (try with_reducible rfl)
          simp only [List.getElem_toArray, List.getElem_cons_zero, List.getElem_cons_succ, Act.put, List.setIfInBounds_toArray, List.set_cons_zero, List.set_cons_succ]
          refine wpAnyH_take (i := 14) (v := undef) rfl (by kernel_rfl) (by kernel_rfl) (by kernel_rfl) (fun _ _ _ h => h) (Or.inr ⟨by rfl, rfl⟩) (by assumption) ?_
          simp only [List.getElem_toArray, List.getElem_cons_zero, List.getElem_cons_succ, Act.put, List.setIfInBounds_toArray, List.set_cons_zero, List.set_cons_succ]
          refine wpAnyH_take (i := 15) (v := undef) rfl (by kernel_rfl) (by kernel_rfl) (by kernel_rfl) (fun _ _ _ h => h) (Or.inr ⟨by rfl, rfl⟩) (by assumption) ?_
          simp only [List.getElem_toArray, List.getElem_cons_zero, List.getElem_cons_succ, Act.put, List.setIfInBounds_toArray, List.set_cons_zero, List.set_cons_succ]
          refine wpAnyH_take (i := 16) (v := undef) rfl (by kernel_rfl) (by kernel_rfl) (by kernel_rfl) (fun _ _ _ h => h) (Or.inr ⟨by rfl, rfl⟩) (by assumption) ?_
          simp only [List.getElem_toArray, List.getElem_cons_zero, List.getElem_cons_succ, Act.put, List.setIfInBounds_toArray, List.set_cons_zero, List.set_cons_succ]
          refine wpAnyH_take (i := 17) (v := undef) rfl (by kernel_rfl) (by kernel_rfl) (by kernel_rfl) (fun _ _ _ h => h) (Or.inr ⟨by rfl, rfl⟩) (by assumption) ?_
          simp only [List.getElem_toArray, List.getElem_cons_zero, List.getElem_cons_succ, Act.put, List.setIfInBounds_toArray, List.set_cons_zero, List.set_cons_succ]
          refine wpAnyH_take (i := 18) (v := undef) rfl (by kernel_rfl) (by kernel_rfl) (by kernel_rfl) (fun _ _ _ h => h) (Or.inr ⟨by rfl, rfl⟩) (by assumption) ?_
          simp only [List.getElem_toArray, List.getElem_cons_zero, List.getElem_cons_succ, Act.put, List.setIfInBounds_toArray, List.set_cons_zero, List.set_cons_succ]
          refine wpAnyH_take (i := 19) (v := undef) rfl (by kernel_rfl) (by kernel_rfl) (by kernel_rfl) (fun _ _ _ h => h) (Or.inr ⟨by rfl, rfl⟩) (by assumption) ?_
          simp only [List.getElem_toArray, List.getElem_cons_zero, List.getElem_cons_succ, Act.put, List.setIfInBounds_toArray, List.set_cons_zero, List.set_cons_succ]
          refine wpAnyH_take (i := 20) (v := undef) rfl (by kernel_rfl) (by kernel_rfl) (by kernel_rfl) (fun _ _ _ h => h) (Or.inr ⟨by rfl, rfl⟩) (by assumption) ?_
          simp only [List.getElem_toArray, List.getElem_cons_zero, List.getElem_cons_succ, Act.put, List.setIfInBounds_toArray, List.set_cons_zero, List.set_cons_succ]
          refine wpAnyH_take (i := 21) (v := ?v21_10) rfl (by kernel_rfl) (by kernel_rfl) (by kernel_rfl) (fun _ _ _ h => h) (Or.inl ⟨by rfl, ?hy21_10⟩) (by assumption) ?rest21_10
          case hy21_10 => intro w hSw; go_simp; (try with_reducible rfl)
          simp only [List.getElem_toArray, List.getElem_cons_zero, List.getElem_cons_succ, Act.put, List.setIfInBounds_toArray, List.set_cons_zero, List.set_cons_succ]
          refine wpAnyH_take (i := 22) (v := ?v22_11) rfl (by kernel_rfl) (by kernel_rfl) (by kernel_rfl) (fun _ _ _ h => h) (Or.inl ⟨by rfl, ?hy22_11⟩) (by assumption) ?rest22_11
          case hy22_11 => intro w hSw; go_simp; (try with_reducible rfl)
          simp only [List.getElem_toArray, List.getElem_cons_zero, List.getElem_cons_succ, Act.put, List.setIfInBounds_toArray, List.set_cons_zero, List.set_cons_succ]
          refine wpAnyH_take (i := 23) (v := ?v23_12) rfl (by kernel_rfl) (by kernel_rfl) (by kernel_rfl) (fun _ _ _ h => h) (Or.inl ⟨by rfl, ?hy23_12⟩) (by assumption) ?rest23_12
          case hy23_12 => intro w hSw; go_simp; (try with_reducible rfl)
          simp only [List.getElem_toArray, List.getElem_cons_zero, List.getElem_cons_succ, Act.put, List.setIfInBounds_toArray, List.set_cons_zero, List.set_cons_succ]
          refine wpAnyH_done (by kernel_rfl) ?_ _
          refine NoPanic.normal ?_
          have Be := hHeld.1
          clear hHeld
          go_wp2
          go_ret
          exact ⟨rfl, hBH.out.trans (Be.mono hBH.out.size)⟩
  · have hm := h.1.2.2.1
    go_enter Tryz.func3, Tryz.ntmps3
    go_wp2_with fail
    refine (big_yes A _ cap _ hn (by have := h.1.2.1; omega)).mono ?_
    rintro e w1 ⟨rfl, rfl⟩
    go_wp2
    go_ret
    exact ⟨rfl, Below.refl _ _⟩
end Go.Proofs.YtfefggcfeppeiaaGreat
