/- The program's NodeOk: the entries are laid one by one into a local array of four. -/
import Derived.Test.YtfefggcfeppeiaaGreatNodeI1ZLooks
import Derived.Test.YtfefggcfeppeiaaGreatNodeI2ZLooks
import Derived.Test.YtfefggcfeppeiaaGreatQLooksf
namespace Go.Proofs.YtfefggcfeppeiaaGreat
open Go.RowKit

/-- A local's block: there, with these cells, not frozen. -/
def Slc (W : World) (q : Nat) (cs : Array Value) : Prop := q < W.heap.size ∧ (∀ o, W.cell? ⟨q, o, none⟩ = cs[o]?) ∧ (∀ o, W.frozen? ⟨q, o, none⟩ = false)
theorem Slc.below {W W' : World} {q : Nat} {cs : Array Value} (h : Slc W q cs) (hb : Below W.heap.size W W') : Slc W' q cs :=
  ⟨Nat.lt_of_lt_of_le h.1 hb.size, fun o => (hb.cell (p := ⟨q, o, none⟩) h.1).trans (h.2.1 o), fun o => (hb.frozen (p := ⟨q, o, none⟩) h.1).trans (h.2.2 o)⟩
theorem Slc.set {W : World} {q : Nat} {cs : Array Value} (h : Slc W q cs) (j : Nat) (u : Value) (hj : j < cs.size) : Slc (W.setCell ⟨q, j, none⟩ u) q (cs.setIfInBounds j u) := by
  refine ⟨by simpa using h.1, fun o => ?_, fun o => (World.frozen?_setCell _ _ _ _).trans (h.2.2 o)⟩
  by_cases e : o = j
  · subst e
    rw [World.cell?_setCell_same' _ _ _ (by rw [h.2.1 o]; simp [hj])]
    simp [hj]
  · rw [World.cell?_setCell_other _ _ _ _ (by intro h; simp only [Addr.mk.injEq] at h; exact e h.2.1.symm), h.2.1 o]
    simp [Ne.symm e]

/-- The array's first places hold zs; their number stands behind it. -/
def Held (cs : Array Value) (zs : List It) : Prop :=
  cs.size = 21 ∧ (∀ i, i < 4 → ∃ x : It, cs[i * 5]? = some (.int .i64 x.id) ∧ cs[i * 5 + 1]? = some (.int .i64 x.x0) ∧ cs[i * 5 + 2]? = some (.int .i64 x.y0) ∧ cs[i * 5 + 3]? = some (.int .i64 x.x1) ∧ cs[i * 5 + 4]? = some (.int .i64 x.y1)) ∧
    (∀ i x, zs[i]? = some x → ∀ j u, (itLay.cells x)[j]? = some u → cs[i * 5 + j]? = some u) ∧ cs[20]? = some (.int .i64 (zs.length : Nat)) ∧ zs.length ≤ 4
def put5 (cs : Array Value) (k : Nat) (x : It) : Array Value :=
  ((((cs.setIfInBounds (k * 5) (.int .i64 x.id)).setIfInBounds (k * 5 + 1) (.int .i64 x.x0)).setIfInBounds (k * 5 + 2) (.int .i64 x.y0)).setIfInBounds (k * 5 + 3) (.int .i64 x.x1)).setIfInBounds (k * 5 + 4) (.int .i64 x.y1)
theorem put5_size (cs : Array Value) (k : Nat) (x : It) : (put5 cs k x).size = cs.size := by simp [put5]
theorem put5_other {cs : Array Value} {k : Nat} {x : It} {o : Nat} (h : o < k * 5 ∨ k * 5 + 4 < o) : (put5 cs k x)[o]? = cs[o]? := by
  unfold put5
  rw [Array.getElem?_setIfInBounds_ne (by omega), Array.getElem?_setIfInBounds_ne (by omega), Array.getElem?_setIfInBounds_ne (by omega), Array.getElem?_setIfInBounds_ne (by omega), Array.getElem?_setIfInBounds_ne (by omega)]
theorem put5_at {cs : Array Value} {k : Nat} {x : It} (h : k * 5 + 4 < cs.size) :
    (put5 cs k x)[k * 5]? = some (.int .i64 x.id) ∧ (put5 cs k x)[k * 5 + 1]? = some (.int .i64 x.x0) ∧ (put5 cs k x)[k * 5 + 2]? = some (.int .i64 x.y0) ∧ (put5 cs k x)[k * 5 + 3]? = some (.int .i64 x.x1) ∧ (put5 cs k x)[k * 5 + 4]? = some (.int .i64 x.y1) := by
  unfold put5
  refine ⟨?_, ?_, ?_, ?_, ?_⟩
  · rw [Array.getElem?_setIfInBounds_ne (by omega), Array.getElem?_setIfInBounds_ne (by omega), Array.getElem?_setIfInBounds_ne (by omega), Array.getElem?_setIfInBounds_ne (by omega), Array.getElem?_setIfInBounds_self_of_lt (by omega)]
  · rw [Array.getElem?_setIfInBounds_ne (by omega), Array.getElem?_setIfInBounds_ne (by omega), Array.getElem?_setIfInBounds_ne (by omega), Array.getElem?_setIfInBounds_self_of_lt (by simp; omega)]
  · rw [Array.getElem?_setIfInBounds_ne (by omega), Array.getElem?_setIfInBounds_ne (by omega), Array.getElem?_setIfInBounds_self_of_lt (by simp; omega)]
  · rw [Array.getElem?_setIfInBounds_ne (by omega), Array.getElem?_setIfInBounds_self_of_lt (by simp; omega)]
  · rw [Array.getElem?_setIfInBounds_self_of_lt (by simp; omega)]
theorem Held.push {cs : Array Value} {zs : List It} {k : Nat} (h : Held cs zs) (hk : zs.length = k) (hl : k < 4) (x : It) : Held ((put5 cs k x).setIfInBounds 20 (.int .i64 ((k : Int) + 1))) (zs ++ [x]) := by
  obtain ⟨h1, h2, h3, h4, h5⟩ := h
  have hp := put5_at (cs := cs) (k := k) (x := x) (by omega)
  refine ⟨by simp [put5_size, h1], fun i hi => ?_, fun i y hy j u hj => ?_, ?_, by simp; omega⟩
  · by_cases e : i = k
    · subst e
      refine ⟨x, ?_⟩
      rw [Array.getElem?_setIfInBounds_ne (by omega), Array.getElem?_setIfInBounds_ne (by omega), Array.getElem?_setIfInBounds_ne (by omega), Array.getElem?_setIfInBounds_ne (by omega), Array.getElem?_setIfInBounds_ne (by omega)]
      exact hp
    · obtain ⟨y, hy⟩ := h2 i hi
      refine ⟨y, ?_⟩
      rw [Array.getElem?_setIfInBounds_ne (by omega), Array.getElem?_setIfInBounds_ne (by omega), Array.getElem?_setIfInBounds_ne (by omega), Array.getElem?_setIfInBounds_ne (by omega), Array.getElem?_setIfInBounds_ne (by omega),
        put5_other (by omega), put5_other (by omega), put5_other (by omega), put5_other (by omega), put5_other (by omega)]
      exact hy
  · have hj5 : j < 5 := (List.getElem?_eq_some_iff.1 hj).1
    have hi : i < k + 1 := by have := (List.getElem?_eq_some_iff.1 hy).1; simpa [hk] using this
    rw [Array.getElem?_setIfInBounds_ne (by omega)]
    by_cases e : i < k
    · rw [List.getElem?_append_left (by omega)] at hy
      rw [put5_other (by omega)]
      exact h3 i y hy j u hj
    · obtain rfl : i = k := by omega
      rw [← hk, List.getElem?_concat_length] at hy
      obtain rfl : x = y := by simpa using hy
      obtain ⟨p0, p1, p2, p3, p4⟩ := hp
      rcases (by omega : j = 0 ∨ j = 1 ∨ j = 2 ∨ j = 3 ∨ j = 4) with rfl | rfl | rfl | rfl | rfl
      · exact p0.trans hj
      · exact p1.trans hj
      · exact p2.trans hj
      · exact p3.trans hj
      · exact p4.trans hj
  · rw [Array.getElem?_setIfInBounds_self_of_lt (by rw [put5_size, h1]; decide), List.length_append, hk]
    rfl
theorem held_nil : Held #[.int .i64 0, .int .i64 0, .int .i64 0, .int .i64 0, .int .i64 0, .int .i64 0, .int .i64 0, .int .i64 0, .int .i64 0, .int .i64 0, .int .i64 0, .int .i64 0, .int .i64 0, .int .i64 0, .int .i64 0, .int .i64 0, .int .i64 0, .int .i64 0, .int .i64 0, .int .i64 0, .int .i64 0] [] := by
  refine ⟨rfl, fun i hi => ⟨⟨0, 0, 0, 0, 0⟩, ?_⟩, fun i x hx => by simp at hx, rfl, by simp⟩
  rcases (by omega : i = 0 ∨ i = 1 ∨ i = 2 ∨ i = 3) with rfl | rfl | rfl | rfl <;> exact ⟨rfl, rfl, rfl, rfl, rfl⟩
theorem Held.rd {W : World} {g k : Nat} {cs : Array Value} {zs : List It} (h : Held cs zs) (hs : Slc W g cs) (hk : zs.length = k) : RdS itLay W (some ⟨g, 0, none⟩) k 4 zs :=
  ⟨⟨hk, hk ▸ h.2.2.2.2, by simp [maxLen], fun e => by cases e⟩, fun _ => ⟨g, 0, rfl, fun i x hx j u hj => by
    rw [Nat.zero_add, hs.2.1]
    exact h.2.2.1 i x hx j u hj⟩⟩

/-- Where a number stands, told by the entries ahead of it. -/
theorem atV_ahead (id : Int) (x : It) (l : List It) (hx : x.id = id) : ∀ (pre : List It) (c : Int), 0 ≤ c → (atV id (pre ++ x :: l) c = c + pre.length ↔ atV id pre c < 0)
  | [], c, _ => by simp [atV, hx]
  | y :: pre, c, hc => by
    by_cases h : y.id = id
    · simp [atV, h]; omega
    · have := atV_ahead id x l hx pre (c + 1) (by omega)
      rw [List.cons_append, atV, if_neg h, atV, if_neg h, ← this, List.length_cons]
      omega
theorem atV_take {xs : List It} {k : Nat} {x : It} (hx : xs[k]? = some x) : atV x.id xs 0 = k ↔ atV x.id (xs.take k) 0 < 0 := by
  have hk : k < xs.length := (List.getElem?_eq_some_iff.1 hx).1
  have h := atV_ahead x.id x (xs.drop (k + 1)) rfl (xs.take k) 0 (by omega)
  rw [← drop_at hx, List.take_append_drop, List.length_take, Nat.min_eq_left (by omega), Int.zero_add] at h
  exact h

theorem below_put {w W : World} {N g : Nat} (h : Below N w W) (i0 i1 i2 i3 i4 : Nat) (u0 u1 u2 u3 u4 : Value) (hg : N ≤ g := by exact Nat.le_refl _) :
    Below N w (((((W.setCell ⟨g, i0, none⟩ u0).setCell ⟨g, i1, none⟩ u1).setCell ⟨g, i2, none⟩ u2).setCell ⟨g, i3, none⟩ u3).setCell ⟨g, i4, none⟩ u4) :=
  ((((h.setCell (p := ⟨g, i0, none⟩) hg _).setCell (p := ⟨g, i1, none⟩) hg _).setCell (p := ⟨g, i2, none⟩) hg _).setCell (p := ⟨g, i3, none⟩) hg _).setCell (p := ⟨g, i4, none⟩) hg _

set_option maxRecDepth 100000 in
set_option maxHeartbeats 1600000 in
theorem add_no (g k : Nat) (cs : Array Value) (zs : List It) (x : It) (w : World) (hs : Slc w g cs) (hh : Held cs zs) (hk : zs.length = k) (h : k = 4 ∨ (k < 4 ∧ ¬ atV x.id zs 0 < 0)) :
    Calls Tryz.prog 85 #[.pointer (some ⟨g, 0, none⟩), .agg #[.int .i64 x.id, .int .i64 x.x0, .int .i64 x.y0, .int .i64 x.x1, .int .i64 x.y1]] w fun e w' => e = .returned (.bool false) ∧ Below w.heap.size w w' := by
  have hgl := hs.1
  have hs2 := hs.below (new_below w (.cells #[.int .i64 x.id, .int .i64 x.x0, .int .i64 x.y0, .int .i64 x.x1, .int .i64 x.y1] 77))
  have c20 := (hs2.2.1 20).trans hh.2.2.2.1
  rw [hk] at c20
  have B0 := Lib.hid (new_below w (.cells #[.int .i64 x.id, .int .i64 x.x0, .int .i64 x.y0, .int .i64 x.x1, .int .i64 x.y1] 77))
  have e0 := (blk_new w #[.int .i64 x.id, .int .i64 x.x0, .int .i64 x.y0, .int .i64 x.x1, .int .i64 x.y1] 77).1 0
  have R := Lib.hid (hh.rd hs2 hk)
  rcases h with rfl | ⟨h4, hge⟩
  · have q20 := cellq c20
    have q0 := cellq e0
    go_enter Tryz.func85, Tryz.ntmps85
    go_wp2_with fail
    refine wp_region_quiet_below (by kernel_rfl) (by kernel_rfl) ?_
    repeat (go_big_quiet_step (fail))
    refine wpQuiet_nil (quiet_end fun w2 hb => ?_)
    replace hb := B0.out.trans (hb.mono B0.out.size)
    go_wp2
    go_ret
    exact ⟨rfl, hb⟩
  · have q20 := cellq c20
    have q0 := cellq e0
    have z4 : ((k : Int) == 4) = false := by rw [beq_eq_false_iff_ne]; omega
    have z5 : (k : Int) ≤ 4 := by omega
    obtain ⟨r, hr⟩ : ∃ r, atV x.id zs 0 = r := ⟨_, rfl⟩
    rw [hr] at hge
    have z6 : decide (r ≥ 0) = true := decide_eq_true (by omega)
    have C := Lib.hid (fun d os => callr (d := d) (os := os) (hr ▸ iEntryAt_any (some ⟨g, 0, none⟩) k 4 zs x.id _ (R.out.below (below_regrown _ d os))))
    clear hge
    go_enter Tryz.func85, Tryz.ntmps85
    go_wp2_with fail
    refine wp_region_quiet_below (by kernel_rfl) (by kernel_rfl) ?_
    repeat (go_big_quiet_step (with_reducible exact C.out _ _))
    refine wpQuiet_nil (quiet_end fun w2 hb => ?_)
    replace hb := B0.out.trans (hb.mono B0.out.size)
    go_wp2
    go_ret
    exact ⟨rfl, hb⟩

set_option maxRecDepth 100000 in
set_option maxHeartbeats 1600000 in
theorem add_yes (g k : Nat) (cs : Array Value) (zs : List It) (x : It) (w : World) (hs : Slc w g cs) (hh : Held cs zs) (hk : zs.length = k) (h4 : k < 4) (hlt : atV x.id zs 0 < 0) :
    Calls Tryz.prog 85 #[.pointer (some ⟨g, 0, none⟩), .agg #[.int .i64 x.id, .int .i64 x.x0, .int .i64 x.y0, .int .i64 x.x1, .int .i64 x.y1]] w fun e w' => e = .returned (.bool true) ∧ (∃ cs', Slc w' g cs' ∧ Held cs' (zs ++ [x])) ∧ Below g w w' := by
  have hgl := hs.1
  have hs2 := hs.below (new_below w (.cells #[.int .i64 x.id, .int .i64 x.x0, .int .i64 x.y0, .int .i64 x.x1, .int .i64 x.y1] 77))
  have c20 := (hs2.2.1 20).trans hh.2.2.2.1
  rw [hk] at c20
  have B0 := Lib.hid (new_below w (.cells #[.int .i64 x.id, .int .i64 x.x0, .int .i64 x.y0, .int .i64 x.x1, .int .i64 x.y1] 77))
  have KE := Lib.hid (blk_new w #[.int .i64 x.id, .int .i64 x.x0, .int .i64 x.y0, .int .i64 x.x1, .int .i64 x.y1] 77)
  have e0 := KE.out.1 0
  have R := Lib.hid (hh.rd hs2 hk)
  have hgl2 : g < (w.alloc (.cells #[.int .i64 x.id, .int .i64 x.x0, .int .i64 x.y0, .int .i64 x.x1, .int .i64 x.y1] 77)).heap.size := by simp; omega
  have q20 := cellq c20
  have q0 := cellq e0
  have z4 : ((k : Int) == 4) = false := by rw [beq_eq_false_iff_ne]; omega
  have z5 : (k : Int) ≤ 4 := by omega
  obtain ⟨r, hr⟩ : ∃ r, atV x.id zs 0 = r := ⟨_, rfl⟩
  rw [hr] at hlt
  have z6 : decide (r ≥ 0) = false := decide_eq_false (by omega)
  have C := Lib.hid (fun d os => callr (d := d) (os := os) (hr ▸ iEntryAt_any (some ⟨g, 0, none⟩) k 4 zs x.id _ (R.out.below (below_regrown _ d os))))
  clear hlt
  replace hs2 := Lib.hid hs2
  go_enter Tryz.func85, Tryz.ntmps85
  go_wp2_with fail
  refine wp_region_quiet_below (by kernel_rfl) (by kernel_rfl) ?_
  repeat (go_big_quiet_step (with_reducible exact C.out _ _))
  refine wpQuiet_nil (quiet_end fun w2 hb => ?_)
  have S2 := hs2.out.below hb
  obtain ⟨k2, f2⟩ := below_keep hb (show w.heap.size < _ by simp) _ _ KE.out
  replace hb := Lib.hid (B0.out.trans (hb.mono B0.out.size))
  have S2' := Lib.hid S2
  have c20 := (S2.2.1 20).trans hh.2.2.2.1
  rw [hk] at c20
  obtain ⟨y, y0, y1, y2, y3, y4⟩ := hh.2.1 k h4
  have d0 := (S2.2.1 _).trans y0
  have d1 := (S2.2.1 _).trans y1
  have d2 := (S2.2.1 _).trans y2
  have d3 := (S2.2.1 _).trans y3
  have d4 := (S2.2.1 _).trans y4
  have fz := S2.2.2
  have k20 := k2 0
  have k21 := k2 1
  have k22 := k2 2
  have k23 := k2 3
  have k24 := k2 4
  simp at k20 k21 k22 k23 k24
  have z1 : (k : Int) < 4 := by omega
  have hgl3 := S2.1
  have hz := hh.1
  have S3 : Slc (((((w2.setCell ⟨g, k * 5, none⟩ (.int .i64 x.id)).setCell ⟨g, k * 5 + 1, none⟩ (.int .i64 x.x0)).setCell ⟨g, k * 5 + 2, none⟩ (.int .i64 x.y0)).setCell ⟨g, k * 5 + 3, none⟩ (.int .i64 x.x1)).setCell ⟨g, k * 5 + 4, none⟩ (.int .i64 x.y1)) g (put5 cs k x) :=
    ((((S2.set (k * 5) _ (by omega)).set (k * 5 + 1) _ (by simp; omega)).set (k * 5 + 2) _ (by simp; omega)).set (k * 5 + 3) _ (by simp; omega)).set (k * 5 + 4) _ (by simp; omega)
  have c20' := (S3.2.1 20).trans ((put5_other (by omega)).trans hh.2.2.2.1)
  rw [hk] at c20'
  have fz' := S3.2.2
  clear q20 q0 C z6 S2 y0 y1 y2 y3 y4 k2 R hs hs2 e0 hgl2
  replace S3 := Lib.hid S3
  go_wp2
  go_big_region
  all_goals go_wp2
  all_goals
    go_ret
    exact ⟨rfl, ⟨_, (S3.out.set 20 _ (by rw [put5_size, hz]; decide)).below (Below.refl _ _).drew, hh.push hk h4 x⟩, ((below_put (hb.out.mono (Nat.le_of_lt hgl)) _ _ _ _ _ _ _ _ _ _).setCell (p := ⟨g, 20, none⟩) (Nat.le_refl g) _).drew⟩

def entO (b : Bool) (x : It) : Bool := okB x.x0 x.y0 x.x1 x.y1 && (if b then inB x.id 1 999 else inB x.id 0 47)
set_option maxRecDepth 100000 in
set_option maxHeartbeats 800000 in
theorem entryOk_any (b : Bool) (x : It) (w : World) :
    Calls Tryz.prog 84 #[.agg #[.int .i64 x.id, .int .i64 x.x0, .int .i64 x.y0, .int .i64 x.x1, .int .i64 x.y1], .bool b] w fun e w' => e = .returned (.bool (entO b x)) ∧ Below w.heap.size w w' := by
  have B0 := new_below w (.cells #[.int .i64 x.id, .int .i64 x.x0, .int .i64 x.y0, .int .i64 x.x1, .int .i64 x.y1] 77)
  cases b with
  | true =>
    have hr : Hid (entO true x = itOk x.id x.x0 x.y0 x.x1 x.y1) := by
      show entO true x = _
      unfold entO itOk
      rw [if_pos rfl, Bool.and_comm]
    go_enter Tryz.func84, Tryz.ntmps84
    go_wp2_with fail
    refine (itemOf_any x _).mono ?_
    rintro e w1 ⟨rfl, hb⟩
    replace B0 := B0.trans (hb.mono B0.size)
    clear hb
    go_wp2_with fail
    refine (iItemOk_any x.id x.x0 x.y0 x.x1 x.y1 _).mono ?_
    rintro e w2 ⟨rfl, hb⟩
    replace B0 := B0.trans (hb.mono B0.size)
    clear hb
    go_wp2
    go_ret
    exact ⟨ret_bool hr.out.symm, B0⟩
  | false =>
    rcases (by omega : ¬ 0 ≤ x.id ∨ (0 ≤ x.id ∧ ¬ x.id < 48) ∨ (0 ≤ x.id ∧ x.id < 48)) with h | ⟨h, h2⟩ | ⟨h, h2⟩
    · have hr : Hid (entO false x = false) := by
        show entO false x = _
        unfold entO inB
        rw [if_neg (by simp), decide_eq_false (by omega), Bool.and_false]
      have hb : decide (x.id ≥ 0) = false := decide_eq_false (by omega)
      go_enter Tryz.func84, Tryz.ntmps84
      go_wp2
      go_ret
      exact ⟨ret_bool hr.out.symm, B0⟩
    · have hr : Hid (entO false x = false) := by
        show entO false x = _
        unfold entO inB
        rw [if_neg (by simp), decide_eq_false (by omega), Bool.and_false]
      go_enter Tryz.func84, Tryz.ntmps84
      go_wp2
      go_ret
      exact ⟨ret_bool hr.out.symm, B0⟩
    · have hr : Hid (entO false x = okB x.x0 x.y0 x.x1 x.y1) := by
        show entO false x = _
        unfold entO inB
        rw [if_neg (by simp), decide_eq_true (by omega), Bool.and_true]
      go_enter Tryz.func84, Tryz.ntmps84
      go_wp2_with fail
      refine (iBoxOk_any x.x0 x.y0 x.x1 x.y1 _).mono ?_
      rintro e w2 ⟨rfl, hj⟩
      replace B0 := B0.trans (hj.mono B0.size)
      clear hj
      go_wp2
      go_ret
      exact ⟨ret_bool hr.out.symm, B0⟩

theorem entOk_entO {b : Bool} {xs : List It} {k : Nat} {x : It} (hx : xs[k]? = some x) : entOk b xs x k = (entO b x && decide (atV x.id (xs.take k) 0 < 0)) := by
  have h := atV_take hx
  unfold entOk entO
  by_cases hp : atV x.id (xs.take k) 0 < 0
  · rw [decide_eq_true hp, h.2 hp]
    simp
  · have hne : (atV x.id xs 0 == (k : Int)) = false := by rw [beq_eq_false_iff_ne]; exact fun e => hp (h.1 e)
    rw [decide_eq_false hp, hne]
    simp
theorem take_more {xs : List It} {k : Nat} {x : It} (hx : xs[k]? = some x) : xs.take k ++ [x] = xs.take (k + 1) := by rw [List.take_add_one, hx]; rfl

set_option maxRecDepth 100000 in
set_option maxHeartbeats 3200000 in
theorem iNodeOk_any : CNodeOk 70 := by
  intro b a n cap xs w h
  have hm := h.1.2.2.1
  have hnc := h.1.2.1
  unfold maxLen at hm
  have HR := Lib.hid h
  have HL := Lib.hid h.1.1
  clear h
  have KN := Lib.hid (blk_alloc (.cells #[.int .i64 0, .int .i64 0, .int .i64 0, .int .i64 0, .int .i64 0, .int .i64 0, .int .i64 0, .int .i64 0, .int .i64 0, .int .i64 0, .int .i64 0, .int .i64 0, .int .i64 0, .int .i64 0, .int .i64 0, .int .i64 0, .int .i64 0, .int .i64 0, .int .i64 0, .int .i64 0, .int .i64 0] 109) (by simp) _ _ (blk_new w #[.bool b, .slice a n cap] 59)).1
  have KS := Lib.hid (blk_new1 w (.cells #[.bool b, .slice a n cap] 59) #[.int .i64 0, .int .i64 0, .int .i64 0, .int .i64 0, .int .i64 0, .int .i64 0, .int .i64 0, .int .i64 0, .int .i64 0, .int .i64 0, .int .i64 0, .int .i64 0, .int .i64 0, .int .i64 0, .int .i64 0, .int .i64 0, .int .i64 0, .int .i64 0, .int .i64 0, .int .i64 0, .int .i64 0] 109)
  have B0 : Hid (Below w.heap.size w ((w.alloc (.cells #[.bool b, .slice a n cap] 59)).alloc (.cells #[.int .i64 0, .int .i64 0, .int .i64 0, .int .i64 0, .int .i64 0, .int .i64 0, .int .i64 0, .int .i64 0, .int .i64 0, .int .i64 0, .int .i64 0, .int .i64 0, .int .i64 0, .int .i64 0, .int .i64 0, .int .i64 0, .int .i64 0, .int .i64 0, .int .i64 0, .int .i64 0, .int .i64 0] 109))) := Lib.hid (((Below.refl _ _).alloc (Nat.le_refl _) _).alloc (by simp) _)
  go_enter Tryz.func70, Tryz.ntmps70
  go_wp2
  go_loopw [9] (fun i wr => ∃ (k : Nat) (cs : Array Value), k ≤ n ∧ k ≤ 4 ∧ i = .int .i64 (k : Int) ∧ Hid (nodeAll b xs xs 0 = nodeAll b xs (xs.drop k) k) ∧ (∀ o, wr.cell? ⟨w.heap.size, o, none⟩ = #[Value.bool b, .slice a n cap][o]?) ∧ Hid (Slc wr (w.heap.size + 1) cs) ∧ Hid (Held cs (xs.take k)) ∧ Below w.heap.size w wr ∧ w.heap.size + 1 < wr.heap.size) (fun i _ => n - (intOf i).toNat)
  case atStart => exact ⟨0, _, Nat.zero_le _, Nat.zero_le _, rfl, rfl, KN.out, Lib.hid ⟨by simp, KS.out.1, KS.out.2⟩, Lib.hid held_nil, B0.out, by simp⟩
  case round =>
    clear KN KS B0
    obtain ⟨k, cs, hk, hk4, rfl, HA, kn, HS, HH, BB, hsz⟩ := hrel
    have kn0 := kn 0
    simp at kn0
    by_cases hlt : k < n
    · obtain ⟨bb, off, x, e2, hbl, hx, d0, d1, d2, d3, d4⟩ := rdIt_at (HR.out.below BB) hlt
      subst e2
      have HX := Lib.hid hx
      have htl : Hid ((xs.take k).length = k) := by show (xs.take k).length = k; rw [List.length_take, HL.out]; omega
      have z0 : (0 : Int) ≤ k := by omega
      have z1 : (k : Int) < n := by omega
      have HE := Lib.hid (entOk_entO (b := b) hx)
      clear hx
      have ke := Lib.hid (blk_new wr #[Value.int .i64 x.id, .int .i64 x.x0, .int .i64 x.y0, .int .i64 x.x1, .int .i64 x.y1] 77)
      have kn2 : Hid (∀ o, (wr.alloc (.cells #[Value.int .i64 x.id, .int .i64 x.x0, .int .i64 x.y0, .int .i64 x.x1, .int .i64 x.y1] 77)).cell? ⟨w.heap.size, o, none⟩ = #[Value.bool b, .slice (some ⟨bb, off, none⟩) n cap][o]?) := Lib.hid (fun o => (World.cell?_alloc_lt wr _ ⟨w.heap.size, o, none⟩ (by show w.heap.size < _; omega)).trans (kn o))
      have HS2 := Lib.hid (HS.out.below (new_below wr (.cells #[Value.int .i64 x.id, .int .i64 x.x0, .int .i64 x.y0, .int .i64 x.x1, .int .i64 x.y1] 77)))
      have BB2 := Lib.hid (BB.alloc BB.size (.cells #[Value.int .i64 x.id, .int .i64 x.x0, .int .i64 x.y0, .int .i64 x.x1, .int .i64 x.y1] 77))
      have c0 := kn2.out 0
      simp at c0
      have C := entryOk_any b x (wr.alloc (.cells #[Value.int .i64 x.id, .int .i64 x.x0, .int .i64 x.y0, .int .i64 x.x1, .int .i64 x.y1] 77))
      cases h1 : entO b x with
      | false =>
        have hr := Lib.hid (nodeOkV_no (HA.out.trans (nodeAll_no HX.out (by rw [HE.out, h1]; rfl))))
        rw [h1] at C
        replace C := Lib.hid C
        clear h1 kn HS BB
        go_wp2_with fail
        refine C.out.mono ?_
        rintro e w1 ⟨rfl, hj⟩
        replace hj := BB2.out.trans (hj.mono BB2.out.size)
        go_wp2
        go_ret
        exact ⟨ret_bool hr.out.symm, hj⟩
      | true =>
        rw [h1] at C
        replace C := Lib.hid C
        by_cases hn : k = 4 ∨ (k < 4 ∧ ¬ atV x.id (xs.take k) 0 < 0)
        · have hr : Hid (nodeOkV b xs = false) := by
            show nodeOkV b xs = false
            rcases hn with rfl | ⟨_, hge⟩
            · unfold nodeOkV
              rw [decide_eq_false (by rw [HL.out]; omega)]
              simp
            · exact nodeOkV_no (HA.out.trans (nodeAll_no HX.out (by rw [HE.out, decide_eq_false hge, Bool.and_false])))
          replace hn := Lib.hid hn
          clear h1 kn HS BB
          go_wp2_with fail
          refine C.out.mono ?_
          rintro e w1 ⟨rfl, hj⟩
          have k1 := below_keep hj (show wr.heap.size < _ by simp) _ _ ke.out
          have HS3 := Lib.hid (HS2.out.below hj)
          replace hj := BB2.out.trans (hj.mono BB2.out.size)
          obtain ⟨k1, -⟩ := k1
          go_wp2_with fail
          refine (add_no (w.heap.size + 1) k cs _ x w1 HS3.out HH.out htl.out (hn.out.imp id (And.imp id Int.not_lt.2))).mono ?_
          rintro e w2 ⟨rfl, hj2⟩
          replace hj := hj.trans (hj2.mono hj.size)
          clear hj2
          go_wp2
          go_ret
          exact ⟨ret_bool hr.out.symm, hj⟩
        · have h4 : k < 4 := by omega
          have hat : atV x.id (xs.take k) 0 < 0 := by
            by_cases h : atV x.id (xs.take k) 0 < 0
            · exact h
            · exact absurd (.inr ⟨h4, h⟩) hn
          have hr := Lib.hid (HA.out.trans (nodeAll_yes HX.out (by rw [HE.out, h1, decide_eq_true hat]; rfl)))
          replace hat := Lib.hid hat
          clear h1 kn HS BB hn
          go_wp2_with fail
          refine C.out.mono ?_
          rintro e w1 ⟨rfl, hj⟩
          have k1 := below_keep hj (show wr.heap.size < _ by simp) _ _ ke.out
          have HS3 := Lib.hid (HS2.out.below hj)
          have kn3 := Lib.hid (keepc hj (show w.heap.size < _ by simp; omega) kn2.out)
          have s1 := hj.size
          simp at s1
          replace hj := BB2.out.trans (hj.mono BB2.out.size)
          obtain ⟨k1, -⟩ := k1
          go_wp2_with fail
          refine (add_yes (w.heap.size + 1) k cs _ x w1 HS3.out HH.out htl.out h4 hat.out).mono ?_
          rintro e w2 ⟨rfl, ⟨cs2, HS4, HH4⟩, hj2⟩
          replace HS4 := Lib.hid HS4
          rw [take_more HX.out] at HH4
          replace HH4 := Lib.hid HH4
          have kn4 : ∀ o, w2.cell? ⟨w.heap.size, o, none⟩ = #[Value.bool b, .slice (some ⟨bb, off, none⟩) n cap][o]? := fun o => (hj2.cell (p := ⟨w.heap.size, o, none⟩) (Nat.lt_succ_self _)).trans (kn3.out o)
          have s2 := hj2.size
          replace hj := hj.trans (hj2.mono (Nat.le_succ _))
          clear hj2
          go_wp2
          go_roundw
          case rel => exact ⟨k + 1, cs2, by omega, by omega, by go_num, hr, kn4, HS4, HH4, hj, by omega⟩
          case measure => simp [intOf]; omega
    · obtain rfl : k = n := by omega
      have hF : nodeAll b xs xs 0 = true := HA.out.trans (nodeAll_end b xs k (by rw [HL.out]; exact Nat.le_refl _))
      have hV : nodeOkV b xs = (b || decide (0 < k)) := by unfold nodeOkV; rw [hF, HL.out, decide_eq_true hk4]; rfl
      have HV := Lib.hid hV
      clear hF hV
      cases b with
      | true =>
        have hr : Hid (nodeOkV true xs = true) := by show _ = _; rw [HV.out]; rfl
        go_wp2
        go_ret
        exact ⟨ret_bool hr.out.symm, BB⟩
      | false =>
        have c20 := (HS.out.2.1 20).trans HH.out.2.2.2.1
        rw [show (xs.take k).length = k by rw [List.length_take, HL.out]; omega] at c20
        have hr : Hid (nodeOkV false xs = decide (0 < k)) := Lib.hid (HV.out.trans (Bool.false_or _))
        go_wp2
        go_ret
        exact ⟨ret_bool hr.out.symm, BB⟩
end Go.Proofs.YtfefggcfeppeiaaGreat
