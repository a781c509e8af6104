/- Texts of this seat laid together: NodeI4, FormI5, FormI2, FormI3. -/
import Derived.Test.YtfgmjegemlkkkaaMd
import Derived.Laws.BitsAllLaws

/- The program's NodeOk: the entries are laid one by one into a local array of four. -/
namespace Go.Proofs.Ytfgmjegemlkkkaa
open Go.RowKit

/-- A local's block: there, with these cells, not frozen. -/
def Slc (W : World) (q : Nat) (cs : Array Value) : Prop := q < W.heap.size ∧ (∀ o, W.cell? ⟨q, o, none⟩ = cs[o]?) ∧ (∀ o, W.frozen? ⟨q, o, none⟩ = false)
theorem Slc.below {W W' : World} {q : Nat} {cs : Array Value} (h : Slc W q cs) (hb : Below W.heap.size W W') : Slc W' q cs :=
  ⟨Nat.lt_of_lt_of_le h.1 hb.size, fun o => (hb.cell (p := ⟨q, o, none⟩) h.1).trans (h.2.1 o), fun o => (hb.frozen (p := ⟨q, o, none⟩) h.1).trans (h.2.2 o)⟩
theorem Slc.set {W : World} {q : Nat} {cs : Array Value} (h : Slc W q cs) (j : Nat) (u : Value) (hj : j < cs.size) : Slc (W.setCell ⟨q, j, none⟩ u) q (cs.setIfInBounds j u) := by
  refine ⟨by simpa using h.1, fun o => ?_, fun o => (World.frozen?_setCell _ _ _ _).trans (h.2.2 o)⟩
  by_cases e : o = j
  · subst e
    rw [World.cell?_setCell_same' _ _ _ (by rw [h.2.1 o]; simp [hj])]
    simp [hj]
  · rw [World.cell?_setCell_other _ _ _ _ (by intro h; simp only [Addr.mk.injEq] at h; exact e h.2.1.symm), h.2.1 o]
    simp [Ne.symm e]

/-- The array's first places hold zs; their number stands behind it. -/
def Held (cs : Array Value) (zs : List It) : Prop :=
  cs.size = 21 ∧ (∀ i, i < 4 → ∃ x : It, cs[i * 5]? = some (.int .i64 x.id) ∧ cs[i * 5 + 1]? = some (.int .i64 x.x0) ∧ cs[i * 5 + 2]? = some (.int .i64 x.y0) ∧ cs[i * 5 + 3]? = some (.int .i64 x.x1) ∧ cs[i * 5 + 4]? = some (.int .i64 x.y1)) ∧
    (∀ i x, zs[i]? = some x → ∀ j u, (itLay.cells x)[j]? = some u → cs[i * 5 + j]? = some u) ∧ cs[20]? = some (.int .i64 (zs.length : Nat)) ∧ zs.length ≤ 4
def put5 (cs : Array Value) (k : Nat) (x : It) : Array Value :=
  ((((cs.setIfInBounds (k * 5) (.int .i64 x.id)).setIfInBounds (k * 5 + 1) (.int .i64 x.x0)).setIfInBounds (k * 5 + 2) (.int .i64 x.y0)).setIfInBounds (k * 5 + 3) (.int .i64 x.x1)).setIfInBounds (k * 5 + 4) (.int .i64 x.y1)
theorem put5_size (cs : Array Value) (k : Nat) (x : It) : (put5 cs k x).size = cs.size := by simp [put5]
theorem put5_other {cs : Array Value} {k : Nat} {x : It} {o : Nat} (h : o < k * 5 ∨ k * 5 + 4 < o) : (put5 cs k x)[o]? = cs[o]? := by
  unfold put5
  rw [Array.getElem?_setIfInBounds_ne (by omega), Array.getElem?_setIfInBounds_ne (by omega), Array.getElem?_setIfInBounds_ne (by omega), Array.getElem?_setIfInBounds_ne (by omega), Array.getElem?_setIfInBounds_ne (by omega)]
theorem put5_at {cs : Array Value} {k : Nat} {x : It} (h : k * 5 + 4 < cs.size) :
    (put5 cs k x)[k * 5]? = some (.int .i64 x.id) ∧ (put5 cs k x)[k * 5 + 1]? = some (.int .i64 x.x0) ∧ (put5 cs k x)[k * 5 + 2]? = some (.int .i64 x.y0) ∧ (put5 cs k x)[k * 5 + 3]? = some (.int .i64 x.x1) ∧ (put5 cs k x)[k * 5 + 4]? = some (.int .i64 x.y1) := by
  unfold put5
  refine ⟨?_, ?_, ?_, ?_, ?_⟩
  · rw [Array.getElem?_setIfInBounds_ne (by omega), Array.getElem?_setIfInBounds_ne (by omega), Array.getElem?_setIfInBounds_ne (by omega), Array.getElem?_setIfInBounds_ne (by omega), Array.getElem?_setIfInBounds_self_of_lt (by omega)]
  · rw [Array.getElem?_setIfInBounds_ne (by omega), Array.getElem?_setIfInBounds_ne (by omega), Array.getElem?_setIfInBounds_ne (by omega), Array.getElem?_setIfInBounds_self_of_lt (by simp; omega)]
  · rw [Array.getElem?_setIfInBounds_ne (by omega), Array.getElem?_setIfInBounds_ne (by omega), Array.getElem?_setIfInBounds_self_of_lt (by simp; omega)]
  · rw [Array.getElem?_setIfInBounds_ne (by omega), Array.getElem?_setIfInBounds_self_of_lt (by simp; omega)]
  · rw [Array.getElem?_setIfInBounds_self_of_lt (by simp; omega)]
theorem Held.push {cs : Array Value} {zs : List It} {k : Nat} (h : Held cs zs) (hk : zs.length = k) (hl : k < 4) (x : It) : Held ((put5 cs k x).setIfInBounds 20 (.int .i64 ((k : Int) + 1))) (zs ++ [x]) := by
  obtain ⟨h1, h2, h3, h4, h5⟩ := h
  have hp := put5_at (cs := cs) (k := k) (x := x) (by omega)
  refine ⟨by simp [put5_size, h1], fun i hi => ?_, fun i y hy j u hj => ?_, ?_, by simp; omega⟩
  · by_cases e : i = k
    · subst e
      refine ⟨x, ?_⟩
      rw [Array.getElem?_setIfInBounds_ne (by omega), Array.getElem?_setIfInBounds_ne (by omega), Array.getElem?_setIfInBounds_ne (by omega), Array.getElem?_setIfInBounds_ne (by omega), Array.getElem?_setIfInBounds_ne (by omega)]
      exact hp
    · obtain ⟨y, hy⟩ := h2 i hi
      refine ⟨y, ?_⟩
      rw [Array.getElem?_setIfInBounds_ne (by omega), Array.getElem?_setIfInBounds_ne (by omega), Array.getElem?_setIfInBounds_ne (by omega), Array.getElem?_setIfInBounds_ne (by omega), Array.getElem?_setIfInBounds_ne (by omega),
        put5_other (by omega), put5_other (by omega), put5_other (by omega), put5_other (by omega), put5_other (by omega)]
      exact hy
  · have hj5 : j < 5 := (List.getElem?_eq_some_iff.1 hj).1
    have hi : i < k + 1 := by have := (List.getElem?_eq_some_iff.1 hy).1; simpa [hk] using this
    rw [Array.getElem?_setIfInBounds_ne (by omega)]
    by_cases e : i < k
    · rw [List.getElem?_append_left (by omega)] at hy
      rw [put5_other (by omega)]
      exact h3 i y hy j u hj
    · obtain rfl : i = k := by omega
      rw [← hk, List.getElem?_concat_length] at hy
      obtain rfl : x = y := by simpa using hy
      obtain ⟨p0, p1, p2, p3, p4⟩ := hp
      rcases (by omega : j = 0 ∨ j = 1 ∨ j = 2 ∨ j = 3 ∨ j = 4) with rfl | rfl | rfl | rfl | rfl
      · exact p0.trans hj
      · exact p1.trans hj
      · exact p2.trans hj
      · exact p3.trans hj
      · exact p4.trans hj
  · rw [Array.getElem?_setIfInBounds_self_of_lt (by rw [put5_size, h1]; decide), List.length_append, hk]
    rfl
theorem held_nil : Held #[.int .i64 0, .int .i64 0, .int .i64 0, .int .i64 0, .int .i64 0, .int .i64 0, .int .i64 0, .int .i64 0, .int .i64 0, .int .i64 0, .int .i64 0, .int .i64 0, .int .i64 0, .int .i64 0, .int .i64 0, .int .i64 0, .int .i64 0, .int .i64 0, .int .i64 0, .int .i64 0, .int .i64 0] [] := by
  refine ⟨rfl, fun i hi => ⟨⟨0, 0, 0, 0, 0⟩, ?_⟩, fun i x hx => by simp at hx, rfl, by simp⟩
  rcases (by omega : i = 0 ∨ i = 1 ∨ i = 2 ∨ i = 3) with rfl | rfl | rfl | rfl <;> exact ⟨rfl, rfl, rfl, rfl, rfl⟩
theorem Held.rd {W : World} {g k : Nat} {cs : Array Value} {zs : List It} (h : Held cs zs) (hs : Slc W g cs) (hk : zs.length = k) : RdS itLay W (some ⟨g, 0, none⟩) k 4 zs :=
  ⟨⟨hk, hk ▸ h.2.2.2.2, by simp [maxLen], fun e => by cases e⟩, fun _ => ⟨g, 0, rfl, fun i x hx j u hj => by
    rw [Nat.zero_add, hs.2.1]
    exact h.2.2.1 i x hx j u hj⟩⟩

/-- Where a number stands, told by the entries ahead of it. -/
theorem atV_ahead (id : Int) (x : It) (l : List It) (hx : x.id = id) : ∀ (pre : List It) (c : Int), 0 ≤ c → (atV id (pre ++ x :: l) c = c + pre.length ↔ atV id pre c < 0)
  | [], c, _ => by simp [atV, hx]
  | y :: pre, c, hc => by
    by_cases h : y.id = id
    · simp [atV, h]; omega
    · have := atV_ahead id x l hx pre (c + 1) (by omega)
      rw [List.cons_append, atV, if_neg h, atV, if_neg h, ← this, List.length_cons]
      omega
theorem atV_take {xs : List It} {k : Nat} {x : It} (hx : xs[k]? = some x) : atV x.id xs 0 = k ↔ atV x.id (xs.take k) 0 < 0 := by
  have hk : k < xs.length := (List.getElem?_eq_some_iff.1 hx).1
  have h := atV_ahead x.id x (xs.drop (k + 1)) rfl (xs.take k) 0 (by omega)
  rw [← drop_at hx, List.take_append_drop, List.length_take, Nat.min_eq_left (by omega), Int.zero_add] at h
  exact h

theorem below_put {w W : World} {N g : Nat} (h : Below N w W) (i0 i1 i2 i3 i4 : Nat) (u0 u1 u2 u3 u4 : Value) (hg : N ≤ g := by exact Nat.le_refl _) :
    Below N w (((((W.setCell ⟨g, i0, none⟩ u0).setCell ⟨g, i1, none⟩ u1).setCell ⟨g, i2, none⟩ u2).setCell ⟨g, i3, none⟩ u3).setCell ⟨g, i4, none⟩ u4) :=
  ((((h.setCell (p := ⟨g, i0, none⟩) hg _).setCell (p := ⟨g, i1, none⟩) hg _).setCell (p := ⟨g, i2, none⟩) hg _).setCell (p := ⟨g, i3, none⟩) hg _).setCell (p := ⟨g, i4, none⟩) hg _

set_option maxRecDepth 100000 in
set_option maxHeartbeats 1600000 in
theorem add_no (g k : Nat) (cs : Array Value) (zs : List It) (x : It) (w : World) (hs : Slc w g cs) (hh : Held cs zs) (hk : zs.length = k) (h : k = 4 ∨ (k < 4 ∧ ¬ atV x.id zs 0 < 0)) :
    Calls Try.prog 61 #[.pointer (some ⟨g, 0, none⟩), .agg #[.int .i64 x.id, .int .i64 x.x0, .int .i64 x.y0, .int .i64 x.x1, .int .i64 x.y1]] w fun e w' => e = .returned (.bool false) ∧ Below w.heap.size w w' := by
  have hgl := hs.1
  have hs2 := hs.below (new_below w (.cells #[.int .i64 x.id, .int .i64 x.x0, .int .i64 x.y0, .int .i64 x.x1, .int .i64 x.y1] 35))
  have c20 := (hs2.2.1 20).trans hh.2.2.2.1
  rw [hk] at c20
  have B0 := Lib.hid (new_below w (.cells #[.int .i64 x.id, .int .i64 x.x0, .int .i64 x.y0, .int .i64 x.x1, .int .i64 x.y1] 35))
  have e0 := (blk_new w #[.int .i64 x.id, .int .i64 x.x0, .int .i64 x.y0, .int .i64 x.x1, .int .i64 x.y1] 35).1 0
  have R := Lib.hid (hh.rd hs2 hk)
  rcases h with rfl | ⟨h4, hge⟩
  · have q20 := cellq c20
    have q0 := cellq e0
    go_enter Try.func61, Try.ntmps61
    go_wp2_with fail
    refine wp_region_quiet_below (by kernel_rfl) (by kernel_rfl) ?_
    repeat (go_big_quiet_step (fail))
    refine wpQuiet_nil (quiet_end fun w2 hb => ?_)
    replace hb := B0.out.trans (hb.mono B0.out.size)
    go_wp2
    go_ret
    exact ⟨rfl, hb⟩
  · have q20 := cellq c20
    have q0 := cellq e0
    have z4 : ((k : Int) == 4) = false := by rw [beq_eq_false_iff_ne]; omega
    have z5 : (k : Int) ≤ 4 := by omega
    obtain ⟨r, hr⟩ : ∃ r, atV x.id zs 0 = r := ⟨_, rfl⟩
    rw [hr] at hge
    have z6 : decide (r ≥ 0) = true := decide_eq_true (by omega)
    have C := Lib.hid (fun d os => callr (d := d) (os := os) (hr ▸ iEntryAt_any (some ⟨g, 0, none⟩) k 4 zs x.id _ (R.out.below (below_regrown _ d os))))
    clear hge
    go_enter Try.func61, Try.ntmps61
    go_wp2_with fail
    refine wp_region_quiet_below (by kernel_rfl) (by kernel_rfl) ?_
    repeat (go_big_quiet_step (with_reducible exact C.out _ _))
    refine wpQuiet_nil (quiet_end fun w2 hb => ?_)
    replace hb := B0.out.trans (hb.mono B0.out.size)
    go_wp2
    go_ret
    exact ⟨rfl, hb⟩

set_option maxRecDepth 100000 in
set_option maxHeartbeats 1600000 in
theorem add_yes (g k : Nat) (cs : Array Value) (zs : List It) (x : It) (w : World) (hs : Slc w g cs) (hh : Held cs zs) (hk : zs.length = k) (h4 : k < 4) (hlt : atV x.id zs 0 < 0) :
    Calls Try.prog 61 #[.pointer (some ⟨g, 0, none⟩), .agg #[.int .i64 x.id, .int .i64 x.x0, .int .i64 x.y0, .int .i64 x.x1, .int .i64 x.y1]] w fun e w' => e = .returned (.bool true) ∧ (∃ cs', Slc w' g cs' ∧ Held cs' (zs ++ [x])) ∧ Below g w w' := by
  have hgl := hs.1
  have hs2 := hs.below (new_below w (.cells #[.int .i64 x.id, .int .i64 x.x0, .int .i64 x.y0, .int .i64 x.x1, .int .i64 x.y1] 35))
  have c20 := (hs2.2.1 20).trans hh.2.2.2.1
  rw [hk] at c20
  have B0 := Lib.hid (new_below w (.cells #[.int .i64 x.id, .int .i64 x.x0, .int .i64 x.y0, .int .i64 x.x1, .int .i64 x.y1] 35))
  have KE := Lib.hid (blk_new w #[.int .i64 x.id, .int .i64 x.x0, .int .i64 x.y0, .int .i64 x.x1, .int .i64 x.y1] 35)
  have e0 := KE.out.1 0
  have R := Lib.hid (hh.rd hs2 hk)
  have hgl2 : g < (w.alloc (.cells #[.int .i64 x.id, .int .i64 x.x0, .int .i64 x.y0, .int .i64 x.x1, .int .i64 x.y1] 35)).heap.size := by simp; omega
  have q20 := cellq c20
  have q0 := cellq e0
  have z4 : ((k : Int) == 4) = false := by rw [beq_eq_false_iff_ne]; omega
  have z5 : (k : Int) ≤ 4 := by omega
  obtain ⟨r, hr⟩ : ∃ r, atV x.id zs 0 = r := ⟨_, rfl⟩
  rw [hr] at hlt
  have z6 : decide (r ≥ 0) = false := decide_eq_false (by omega)
  have C := Lib.hid (fun d os => callr (d := d) (os := os) (hr ▸ iEntryAt_any (some ⟨g, 0, none⟩) k 4 zs x.id _ (R.out.below (below_regrown _ d os))))
  clear hlt
  replace hs2 := Lib.hid hs2
  go_enter Try.func61, Try.ntmps61
  go_wp2_with fail
  refine wp_region_quiet_below (by kernel_rfl) (by kernel_rfl) ?_
  repeat (go_big_quiet_step (with_reducible exact C.out _ _))
  refine wpQuiet_nil (quiet_end fun w2 hb => ?_)
  have S2 := hs2.out.below hb
  obtain ⟨k2, f2⟩ := below_keep hb (show w.heap.size < _ by simp) _ _ KE.out
  replace hb := Lib.hid (B0.out.trans (hb.mono B0.out.size))
  have S2' := Lib.hid S2
  have c20 := (S2.2.1 20).trans hh.2.2.2.1
  rw [hk] at c20
  obtain ⟨y, y0, y1, y2, y3, y4⟩ := hh.2.1 k h4
  have d0 := (S2.2.1 _).trans y0
  have d1 := (S2.2.1 _).trans y1
  have d2 := (S2.2.1 _).trans y2
  have d3 := (S2.2.1 _).trans y3
  have d4 := (S2.2.1 _).trans y4
  have fz := S2.2.2
  have k20 := k2 0
  have k21 := k2 1
  have k22 := k2 2
  have k23 := k2 3
  have k24 := k2 4
  simp at k20 k21 k22 k23 k24
  have z1 : (k : Int) < 4 := by omega
  have hgl3 := S2.1
  have hz := hh.1
  have S3 : Slc (((((w2.setCell ⟨g, k * 5, none⟩ (.int .i64 x.id)).setCell ⟨g, k * 5 + 1, none⟩ (.int .i64 x.x0)).setCell ⟨g, k * 5 + 2, none⟩ (.int .i64 x.y0)).setCell ⟨g, k * 5 + 3, none⟩ (.int .i64 x.x1)).setCell ⟨g, k * 5 + 4, none⟩ (.int .i64 x.y1)) g (put5 cs k x) :=
    ((((S2.set (k * 5) _ (by omega)).set (k * 5 + 1) _ (by simp; omega)).set (k * 5 + 2) _ (by simp; omega)).set (k * 5 + 3) _ (by simp; omega)).set (k * 5 + 4) _ (by simp; omega)
  have c20' := (S3.2.1 20).trans ((put5_other (by omega)).trans hh.2.2.2.1)
  rw [hk] at c20'
  have fz' := S3.2.2
  clear q20 q0 C z6 S2 y0 y1 y2 y3 y4 k2 R hs hs2 e0 hgl2
  replace S3 := Lib.hid S3
  go_wp2
  go_big_region
  all_goals go_wp2
  all_goals
    go_ret
    exact ⟨rfl, ⟨_, (S3.out.set 20 _ (by rw [put5_size, hz]; decide)).below (Below.refl _ _).drew, hh.push hk h4 x⟩, ((below_put (hb.out.mono (Nat.le_of_lt hgl)) _ _ _ _ _ _ _ _ _ _).setCell (p := ⟨g, 20, none⟩) (Nat.le_refl g) _).drew⟩

def entO (b : Bool) (x : It) : Bool := okB x.x0 x.y0 x.x1 x.y1 && (if b then inB x.id 1 999 else inB x.id 0 47)
set_option maxRecDepth 100000 in
set_option maxHeartbeats 800000 in
theorem entryOk_any (b : Bool) (x : It) (w : World) :
    Calls Try.prog 60 #[.agg #[.int .i64 x.id, .int .i64 x.x0, .int .i64 x.y0, .int .i64 x.x1, .int .i64 x.y1], .bool b] w fun e w' => e = .returned (.bool (entO b x)) ∧ Below w.heap.size w w' := by
  have B0 := new_below w (.cells #[.int .i64 x.id, .int .i64 x.x0, .int .i64 x.y0, .int .i64 x.x1, .int .i64 x.y1] 35)
  cases b with
  | true =>
    have hr : Hid (entO true x = itOk x.id x.x0 x.y0 x.x1 x.y1) := by
      show entO true x = _
      unfold entO itOk
      rw [if_pos rfl, Bool.and_comm]
    go_enter Try.func60, Try.ntmps60
    go_wp2_with fail
    refine (itemOf_any x _).mono ?_
    rintro e w1 ⟨rfl, hb⟩
    replace B0 := B0.trans (hb.mono B0.size)
    clear hb
    go_wp2_with fail
    refine (iItemOk_any x.id x.x0 x.y0 x.x1 x.y1 _).mono ?_
    rintro e w2 ⟨rfl, hb⟩
    replace B0 := B0.trans (hb.mono B0.size)
    clear hb
    go_wp2
    go_ret
    exact ⟨ret_bool hr.out.symm, B0⟩
  | false =>
    rcases (by omega : ¬ 0 ≤ x.id ∨ (0 ≤ x.id ∧ ¬ x.id < 48) ∨ (0 ≤ x.id ∧ x.id < 48)) with h | ⟨h, h2⟩ | ⟨h, h2⟩
    · have hr : Hid (entO false x = false) := by
        show entO false x = _
        unfold entO inB
        rw [if_neg (by simp), decide_eq_false (by omega), Bool.and_false]
      have hb : decide (x.id ≥ 0) = false := decide_eq_false (by omega)
      go_enter Try.func60, Try.ntmps60
      go_wp2
      go_ret
      exact ⟨ret_bool hr.out.symm, B0⟩
    · have hr : Hid (entO false x = false) := by
        show entO false x = _
        unfold entO inB
        rw [if_neg (by simp), decide_eq_false (by omega), Bool.and_false]
      go_enter Try.func60, Try.ntmps60
      go_wp2
      go_ret
      exact ⟨ret_bool hr.out.symm, B0⟩
    · have hr : Hid (entO false x = okB x.x0 x.y0 x.x1 x.y1) := by
        show entO false x = _
        unfold entO inB
        rw [if_neg (by simp), decide_eq_true (by omega), Bool.and_true]
      go_enter Try.func60, Try.ntmps60
      go_wp2_with fail
      refine (iBoxOk_any x.x0 x.y0 x.x1 x.y1 _).mono ?_
      rintro e w2 ⟨rfl, hj⟩
      replace B0 := B0.trans (hj.mono B0.size)
      clear hj
      go_wp2
      go_ret
      exact ⟨ret_bool hr.out.symm, B0⟩

theorem entOk_entO {b : Bool} {xs : List It} {k : Nat} {x : It} (hx : xs[k]? = some x) : entOk b xs x k = (entO b x && decide (atV x.id (xs.take k) 0 < 0)) := by
  have h := atV_take hx
  unfold entOk entO
  by_cases hp : atV x.id (xs.take k) 0 < 0
  · rw [decide_eq_true hp, h.2 hp]
    simp
  · have hne : (atV x.id xs 0 == (k : Int)) = false := by rw [beq_eq_false_iff_ne]; exact fun e => hp (h.1 e)
    rw [decide_eq_false hp, hne]
    simp
theorem take_more {xs : List It} {k : Nat} {x : It} (hx : xs[k]? = some x) : xs.take k ++ [x] = xs.take (k + 1) := by rw [List.take_add_one, hx]; rfl

set_option maxRecDepth 100000 in
set_option maxHeartbeats 3200000 in
theorem iNodeOk_any : CNodeOk 23 := by
  intro b a n cap xs w h
  have hm := h.1.2.2.1
  have hnc := h.1.2.1
  unfold maxLen at hm
  have HR := Lib.hid h
  have HL := Lib.hid h.1.1
  clear h
  have KN := Lib.hid (blk_alloc (.cells #[.int .i64 0, .int .i64 0, .int .i64 0, .int .i64 0, .int .i64 0, .int .i64 0, .int .i64 0, .int .i64 0, .int .i64 0, .int .i64 0, .int .i64 0, .int .i64 0, .int .i64 0, .int .i64 0, .int .i64 0, .int .i64 0, .int .i64 0, .int .i64 0, .int .i64 0, .int .i64 0, .int .i64 0] 80) (by simp) _ _ (blk_new w #[.bool b, .slice a n cap] 26)).1
  have KS := Lib.hid (blk_new1 w (.cells #[.bool b, .slice a n cap] 26) #[.int .i64 0, .int .i64 0, .int .i64 0, .int .i64 0, .int .i64 0, .int .i64 0, .int .i64 0, .int .i64 0, .int .i64 0, .int .i64 0, .int .i64 0, .int .i64 0, .int .i64 0, .int .i64 0, .int .i64 0, .int .i64 0, .int .i64 0, .int .i64 0, .int .i64 0, .int .i64 0, .int .i64 0] 80)
  have B0 : Hid (Below w.heap.size w ((w.alloc (.cells #[.bool b, .slice a n cap] 26)).alloc (.cells #[.int .i64 0, .int .i64 0, .int .i64 0, .int .i64 0, .int .i64 0, .int .i64 0, .int .i64 0, .int .i64 0, .int .i64 0, .int .i64 0, .int .i64 0, .int .i64 0, .int .i64 0, .int .i64 0, .int .i64 0, .int .i64 0, .int .i64 0, .int .i64 0, .int .i64 0, .int .i64 0, .int .i64 0] 80))) := Lib.hid (((Below.refl _ _).alloc (Nat.le_refl _) _).alloc (by simp) _)
  go_enter Try.func23, Try.ntmps23
  go_wp2
  go_loopw [9] (fun i wr => ∃ (k : Nat) (cs : Array Value), k ≤ n ∧ k ≤ 4 ∧ i = .int .i64 (k : Int) ∧ Hid (nodeAll b xs xs 0 = nodeAll b xs (xs.drop k) k) ∧ (∀ o, wr.cell? ⟨w.heap.size, o, none⟩ = #[Value.bool b, .slice a n cap][o]?) ∧ Hid (Slc wr (w.heap.size + 1) cs) ∧ Hid (Held cs (xs.take k)) ∧ Below w.heap.size w wr ∧ w.heap.size + 1 < wr.heap.size) (fun i _ => n - (intOf i).toNat)
  case atStart => exact ⟨0, _, Nat.zero_le _, Nat.zero_le _, rfl, rfl, KN.out, Lib.hid ⟨by simp, KS.out.1, KS.out.2⟩, Lib.hid held_nil, B0.out, by simp⟩
  case round =>
    clear KN KS B0
    obtain ⟨k, cs, hk, hk4, rfl, HA, kn, HS, HH, BB, hsz⟩ := hrel
    have kn0 := kn 0
    simp at kn0
    by_cases hlt : k < n
    · obtain ⟨bb, off, x, e2, hbl, hx, d0, d1, d2, d3, d4⟩ := rdIt_at (HR.out.below BB) hlt
      subst e2
      have HX := Lib.hid hx
      have htl : Hid ((xs.take k).length = k) := by show (xs.take k).length = k; rw [List.length_take, HL.out]; omega
      have z0 : (0 : Int) ≤ k := by omega
      have z1 : (k : Int) < n := by omega
      have HE := Lib.hid (entOk_entO (b := b) hx)
      clear hx
      have ke := Lib.hid (blk_new wr #[Value.int .i64 x.id, .int .i64 x.x0, .int .i64 x.y0, .int .i64 x.x1, .int .i64 x.y1] 35)
      have kn2 : Hid (∀ o, (wr.alloc (.cells #[Value.int .i64 x.id, .int .i64 x.x0, .int .i64 x.y0, .int .i64 x.x1, .int .i64 x.y1] 35)).cell? ⟨w.heap.size, o, none⟩ = #[Value.bool b, .slice (some ⟨bb, off, none⟩) n cap][o]?) := Lib.hid (fun o => (World.cell?_alloc_lt wr _ ⟨w.heap.size, o, none⟩ (by show w.heap.size < _; omega)).trans (kn o))
      have HS2 := Lib.hid (HS.out.below (new_below wr (.cells #[Value.int .i64 x.id, .int .i64 x.x0, .int .i64 x.y0, .int .i64 x.x1, .int .i64 x.y1] 35)))
      have BB2 := Lib.hid (BB.alloc BB.size (.cells #[Value.int .i64 x.id, .int .i64 x.x0, .int .i64 x.y0, .int .i64 x.x1, .int .i64 x.y1] 35))
      have c0 := kn2.out 0
      simp at c0
      have C := entryOk_any b x (wr.alloc (.cells #[Value.int .i64 x.id, .int .i64 x.x0, .int .i64 x.y0, .int .i64 x.x1, .int .i64 x.y1] 35))
      cases h1 : entO b x with
      | false =>
        have hr := Lib.hid (nodeOkV_no (HA.out.trans (nodeAll_no HX.out (by rw [HE.out, h1]; rfl))))
        rw [h1] at C
        replace C := Lib.hid C
        clear h1 kn HS BB
        go_wp2_with fail
        refine C.out.mono ?_
        rintro e w1 ⟨rfl, hj⟩
        replace hj := BB2.out.trans (hj.mono BB2.out.size)
        go_wp2
        go_ret
        exact ⟨ret_bool hr.out.symm, hj⟩
      | true =>
        rw [h1] at C
        replace C := Lib.hid C
        by_cases hn : k = 4 ∨ (k < 4 ∧ ¬ atV x.id (xs.take k) 0 < 0)
        · have hr : Hid (nodeOkV b xs = false) := by
            show nodeOkV b xs = false
            rcases hn with rfl | ⟨_, hge⟩
            · unfold nodeOkV
              rw [decide_eq_false (by rw [HL.out]; omega)]
              simp
            · exact nodeOkV_no (HA.out.trans (nodeAll_no HX.out (by rw [HE.out, decide_eq_false hge, Bool.and_false])))
          replace hn := Lib.hid hn
          clear h1 kn HS BB
          go_wp2_with fail
          refine C.out.mono ?_
          rintro e w1 ⟨rfl, hj⟩
          have k1 := below_keep hj (show wr.heap.size < _ by simp) _ _ ke.out
          have HS3 := Lib.hid (HS2.out.below hj)
          replace hj := BB2.out.trans (hj.mono BB2.out.size)
          obtain ⟨k1, -⟩ := k1
          go_wp2_with fail
          refine (add_no (w.heap.size + 1) k cs _ x w1 HS3.out HH.out htl.out (hn.out.imp id (And.imp id Int.not_lt.2))).mono ?_
          rintro e w2 ⟨rfl, hj2⟩
          replace hj := hj.trans (hj2.mono hj.size)
          clear hj2
          go_wp2
          go_ret
          exact ⟨ret_bool hr.out.symm, hj⟩
        · have h4 : k < 4 := by omega
          have hat : atV x.id (xs.take k) 0 < 0 := by
            by_cases h : atV x.id (xs.take k) 0 < 0
            · exact h
            · exact absurd (.inr ⟨h4, h⟩) hn
          have hr := Lib.hid (HA.out.trans (nodeAll_yes HX.out (by rw [HE.out, h1, decide_eq_true hat]; rfl)))
          replace hat := Lib.hid hat
          clear h1 kn HS BB hn
          go_wp2_with fail
          refine C.out.mono ?_
          rintro e w1 ⟨rfl, hj⟩
          have k1 := below_keep hj (show wr.heap.size < _ by simp) _ _ ke.out
          have HS3 := Lib.hid (HS2.out.below hj)
          have kn3 := Lib.hid (keepc hj (show w.heap.size < _ by simp; omega) kn2.out)
          have s1 := hj.size
          simp at s1
          replace hj := BB2.out.trans (hj.mono BB2.out.size)
          obtain ⟨k1, -⟩ := k1
          go_wp2_with fail
          refine (add_yes (w.heap.size + 1) k cs _ x w1 HS3.out HH.out htl.out h4 hat.out).mono ?_
          rintro e w2 ⟨rfl, ⟨cs2, HS4, HH4⟩, hj2⟩
          replace HS4 := Lib.hid HS4
          rw [take_more HX.out] at HH4
          replace HH4 := Lib.hid HH4
          have kn4 : ∀ o, w2.cell? ⟨w.heap.size, o, none⟩ = #[Value.bool b, .slice (some ⟨bb, off, none⟩) n cap][o]? := fun o => (hj2.cell (p := ⟨w.heap.size, o, none⟩) (Nat.lt_succ_self _)).trans (kn3.out o)
          have s2 := hj2.size
          replace hj := hj.trans (hj2.mono (Nat.le_succ _))
          clear hj2
          go_wp2
          go_roundw
          case rel => exact ⟨k + 1, cs2, by omega, by omega, by go_num, hr, kn4, HS4, HH4, hj, by omega⟩
          case measure => simp [intOf]; omega
    · obtain rfl : k = n := by omega
      have hF : nodeAll b xs xs 0 = true := HA.out.trans (nodeAll_end b xs k (by rw [HL.out]; exact Nat.le_refl _))
      have hV : nodeOkV b xs = (b || decide (0 < k)) := by unfold nodeOkV; rw [hF, HL.out, decide_eq_true hk4]; rfl
      have HV := Lib.hid hV
      clear hF hV
      cases b with
      | true =>
        have hr : Hid (nodeOkV true xs = true) := by show _ = _; rw [HV.out]; rfl
        go_wp2
        go_ret
        exact ⟨ret_bool hr.out.symm, BB⟩
      | false =>
        have c20 := (HS.out.2.1 20).trans HH.out.2.2.2.1
        rw [show (xs.take k).length = k by rw [List.length_take, HL.out]; omega] at c20
        have hr : Hid (nodeOkV false xs = decide (0 < k)) := Lib.hid (HV.out.trans (Bool.false_or _))
        go_wp2
        go_ret
        exact ⟨ret_bool hr.out.symm, BB⟩
end Go.Proofs.Ytfgmjegemlkkkaa

/- The program's GetNode. -/
namespace Go.Proofs.Ytfgmjegemlkkkaa
open Go.RowKit

set_option maxRecDepth 100000 in
theorem not16 (q : Int) (h : 0 ≤ q) (h' : q ≤ 255) : bits .andNot .u8 q 16 = cntP q := by
  obtain ⟨a, rfl⟩ := Int.eq_ofNat_of_zero_le h
  have h2 : ∀ a : Fin 256, (a.val &&& (255 - 16)) = a.val - 16 * (a.val / 16 % 2) := by decide
  have h3 := h2 ⟨a, by omega⟩
  simp only at h3
  rw [u8_andNot (a : Int) 16 (by omega) (by omega) (by omega) (by omega)]
  unfold cntP
  simp only [Int.toNat_natCast]
  rw [show (16 : Int).toNat = 16 from rfl, h3]
  omega
set_option maxRecDepth 100000 in
theorem and16 (q : Int) (h : 0 ≤ q) (h' : q ≤ 255) : bits .and .u8 q 16 = 16 * (q / 16 % 2) := by
  obtain ⟨a, rfl⟩ := Int.eq_ofNat_of_zero_le h
  have h2 : ∀ a : Fin 256, (a.val &&& 16) = 16 * (a.val / 16 % 2) := by decide
  have h3 := h2 ⟨a, by omega⟩
  simp only at h3
  rw [u8_and (a : Int) 16 (by omega) (by omega) (by omega) (by omega)]
  simp only [Int.toNat_natCast]
  rw [show (16 : Int).toNat = 16 from rfl, h3]
  omega
theorem cntP_at (q : Int) (h : 0 ≤ q) (h' : q ≤ 255) : ∃ k : Nat, cntP q = k ∧ k ≤ 255 := ⟨(cntP q).toNat, by unfold cntP; omega, by unfold cntP; omega⟩

set_option maxHeartbeats 3200000 in
set_option maxRecDepth 100000 in
theorem iGetNode_any : CGetNode 11 := by
  intro a n c bs w h hz hn
  have HL := Lib.hid h.1.1
  have HR := Lib.hid h
  have K := Lib.hid (blk_new w #[.bool false, .slice none 0 0] 26)
  have B0 := Lib.hid (new_below w (.cells #[.bool false, .slice none 0 0] 26))
  by_cases h25 : n = 25
  · subst h25
    obtain ⟨b, off, rfl, hc⟩ := h.2 (by omega)
    have c0 := hc 0 (by omega)
    rw [Nat.add_zero] at c0
    have hbl : b < w.heap.size := World.block_lt_of_cell? w ⟨b, off, none⟩ c0
    obtain ⟨q, hq⟩ : ∃ q, bs.getD 0 0 = q := ⟨_, rfl⟩
    obtain ⟨q0, q1⟩ := hz 0
    rw [hq] at c0 q0 q1
    obtain ⟨kk, hk, hk2⟩ := cntP_at q q0 q1
    have hb1 := not16 q q0 q1
    rw [hk] at hb1
    have hb2 := and16 q q0 q1
    obtain ⟨mm, hmm⟩ : ∃ mm : Int, 16 * (q / 16 % 2) = mm := ⟨_, rfl⟩
    have hlf : (mm != 0) = leafP q := by
      unfold leafP
      by_cases e : q / 16 % 2 = 1
      · rw [decide_eq_true e, bne_iff_ne]; omega
      · rw [decide_eq_false e, bne_eq_false_iff_eq]; omega
    obtain ⟨lf, hlf2⟩ : ∃ lf, leafP q = lf := ⟨_, rfl⟩
    rw [hmm] at hb2
    rw [hlf2] at hlf
    have hnc := HR.out.1.2.1
    have hm := HR.out.1.2.2.1
    unfold maxLen at hm
    have z1 : ¬ c = 1 := by omega
    have hwr : wrap64 (kk : Int) = kk := by rw [← IntWalk.i64_left, IntKind.wrap_i64]; omega
    have HK := Lib.hid (show cntP (bs.getD 0 0) = kk by rw [hq]; exact hk)
    have HF := Lib.hid (show leafP (bs.getD 0 0) = lf by rw [hq]; exact hlf2)
    have R1 : Hid (RdI .u8 w (some ⟨b, off + 1, none⟩) 24 (c - 1) (bs.drop 1)) := by
      refine Lib.hid ⟨⟨by rw [List.length_drop, HL.out], by omega, by unfold maxLen; omega, fun e => by cases e⟩, fun _ => ⟨b, off + 1, rfl, fun i hi => ?_⟩⟩
      rw [List.getD_eq_getElem?_getD, List.getElem?_drop, ← List.getD_eq_getElem?_getD, Nat.add_assoc]
      exact hc (1 + i) (by omega)
    clear h hc hmm hlf2 hk hq
    have CF := Lib.hid (iFirst_any (some ⟨b, off + 1, none⟩) (c - 1) kk bs _ (R1.out.below B0.out) HL.out hz hk2)
    go_enter Try.func11, Try.ntmps11
    go_wp2_with fail
    refine CF.out.mono ?_
    rintro e w1 ⟨v, rfl, ho, hb⟩
    have B1 := Lib.hid (B0.out.trans (hb.mono B0.out.size))
    have s1 := hb.size
    simp at s1
    obtain ⟨k0, f0⟩ := below_keep hb (by simp) _ _ K.out
    have hbl1 : b < w1.heap.size := by omega
    have hbne : b ≠ w.heap.size := by omega
    clear CF B0 K R1
    cases ht : (decide (kk ≤ 4) && hasAll bs kk) with
    | false =>
      have hok : Hid (okN bs = false) := by
        show okN bs = false
        cases e : okN bs with
        | false => rfl
        | true =>
          obtain ⟨h1, h2, -⟩ := okN_told e HK.out
          rw [h2, decide_eq_true h1] at ht
          cases ht
      clear ho ht hb
      go_wp2
      refine bodyPost_ret (v := .tuple #[.agg #[.bool false, .slice none 0 0], .bool false]) (by simp [results, Try.results11, go_sem, k0]) rfl ?_
      exact retN_no hok.out ((B1.out.setCell (p := ⟨w.heap.size, 0, none⟩) (Nat.le_refl _) _).setCell (p := ⟨w.heap.size, 1, none⟩) (Nat.le_refl _) _)
    | true =>
      obtain ⟨va, vc, hv, -⟩ := OwnS.rd (ho ht)
      rw [rawAll_len] at hv
      subst hv
      have HO : Hid (OwnS itLay 35 w1 (w.heap.size + 1) (.slice va kk vc) (rawAll bs kk)) := Lib.hid (by have := ho ht; simpa using this)
      simp only [Bool.and_eq_true, decide_eq_true_eq] at ht
      obtain ⟨h4, hAll⟩ := ht
      have c1 : w1.cell? ⟨b, off, none⟩ = some (Value.int .u8 q) := (B1.out.cell (p := ⟨b, off, none⟩) hbl).trans c0
      have hnb : b ≠ w1.heap.size := by omega
      have hs1 : w.heap.size < w1.heap.size := by omega
      obtain ⟨k1, f1⟩ := blk_alloc (.cells #[.bool lf, .slice va kk vc] 26) hs1 _ _ ⟨k0, f0⟩
      clear ho hb c0 hAll
      by_cases h5 : kk = 4
      · subst h5
        have RR0 : Hid (RdI .u8 w (some ⟨b, off, none⟩) 0 0 (bs.drop (1 + 6 * 4))) := by
          refine Lib.hid ⟨⟨by rw [List.length_drop, HL.out], by omega, by unfold maxLen; omega, fun e => by cases e⟩, fun h => by omega⟩
        have RR : Hid (RdI .u8 (w1.alloc (.cells #[.bool lf, .slice va 4 vc] 26)) (some ⟨b, off, none⟩) 0 0 (bs.drop (1 + 6 * 4))) := Lib.hid (RdI.below RR0.out (B1.out.trans ((new_below w1 (.cells #[.bool lf, .slice va 4 vc] 26)).mono B1.out.size)))
        clear RR0
        have CZ := Lib.hid (iAllZero_any (some ⟨b, off, none⟩) _ _ (bs.drop (1 + 6 * 4)) _ RR.out (by omega))
        clear RR
        go_wp2_with fail
        refine CZ.out.mono ?_
        rintro e w2 ⟨rfl, b2⟩
        have s2 := b2.size
        simp at s2
        obtain ⟨j0, g0⟩ := below_keep b2 (by simp; omega) _ _ ⟨k1, f1⟩
        obtain ⟨m0, n0⟩ := below_keep b2 (by simp) _ _ (blk_new w1 #[.bool lf, .slice va 4 vc] 26)
        have B2 := Lib.hid (B1.out.trans ((new_below w1 (.cells #[.bool lf, .slice va 4 vc] 26)).mono B1.out.size |>.trans (b2.mono (Nat.le_trans B1.out.size (by simp)))))
        have HO2 := Lib.hid (OwnS.below (OwnS.below HO.out (new_below w1 (.cells #[.bool lf, .slice va 4 vc] 26))) b2)
        have hl1 : w.heap.size < w2.heap.size := by omega
        have hl2 : w1.heap.size < w2.heap.size := by omega
        clear CZ b2 k1 f1 k0 f0 HO
        cases hzr : zeros (bs.drop (1 + 6 * 4)) with
        | false =>
          have hok : Hid (okN bs = false) := by
            show okN bs = false
            cases e : okN bs with
            | false => rfl
            | true =>
              obtain ⟨-, -, h3, -⟩ := okN_told e HK.out
              rw [h3] at hzr
              cases hzr
          clear hzr
          go_wp2
          refine bodyPost_ret (v := .tuple #[.agg #[.bool false, .slice none 0 0], .bool false]) (by simp [results, Try.results11, go_sem, j0]) rfl ?_
          exact retN_no hok.out ((B2.out.setCell (p := ⟨w.heap.size, 0, none⟩) (Nat.le_refl _) _).setCell (p := ⟨w.heap.size, 1, none⟩) (Nat.le_refl _) _)
        | true =>
          have RD : Hid (RdS itLay w2 va 4 vc (rawAll bs 4)) := by
            have := rdS_owns HO2.out
            rw [rawAll_len] at this
            exact Lib.hid this
          have CN := iNodeOk_any lf va 4 vc (rawAll bs 4) w2 RD.out
          have m00 := m0 0
          have m01 := m0 1
          simp at m00 m01
          cases hno : nodeOkV lf (rawAll bs 4) with
          | false =>
            have hok : Hid (okN bs = false) := by
              show okN bs = false
              cases e : okN bs with
              | false => rfl
              | true =>
                obtain ⟨-, -, -, h3⟩ := okN_told e HK.out
                rw [HF.out, hno] at h3
                cases h3
            rw [hno] at CN
            replace CN := Lib.hid CN
            clear hzr hno
            go_wp2_with fail
            refine CN.out.mono ?_
            rintro e w3 ⟨rfl, b3⟩
            obtain ⟨j3, g3⟩ := below_keep b3 hl1 _ _ ⟨j0, g0⟩
            have B3 := Lib.hid (B2.out.trans (b3.mono B2.out.size))
            clear b3 j0 m0
            go_wp2
            refine bodyPost_ret (v := .tuple #[.agg #[.bool false, .slice none 0 0], .bool false]) (by simp [results, Try.results11, go_sem, j3]) rfl ?_
            exact retN_no hok.out ((B3.out.setCell (p := ⟨w.heap.size, 0, none⟩) (Nat.le_refl _) _).setCell (p := ⟨w.heap.size, 1, none⟩) (Nat.le_refl _) _)
          | true =>
            obtain ⟨y1, y2, y3⟩ := okN_read HL.out hz HK.out hzr (by rw [HF.out]; exact hno)
            have hok := Lib.hid y1
            have hlfN := Lib.hid (y2.trans HF.out)
            have hls := Lib.hid y3
            rw [hno] at CN
            replace CN := Lib.hid CN
            clear hzr hno y1 y2 y3
            go_wp2_with fail
            refine CN.out.mono ?_
            rintro e w3 ⟨rfl, b3⟩
            obtain ⟨j3, g3⟩ := below_keep b3 hl1 _ _ ⟨j0, g0⟩
            obtain ⟨m3, -⟩ := below_keep b3 hl2 _ _ ⟨m0, n0⟩
            have B3 := Lib.hid (B2.out.trans (b3.mono B2.out.size))
            have HO3 := Lib.hid (OwnS.below HO2.out b3)
            clear b3 j0 m0 m00 m01
            go_wp2
            refine bodyPost_ret (v := .tuple #[.agg #[.bool lf, .slice va 4 vc], .bool true]) (by simp [results, Try.results11, go_sem, j3]) rfl ?_
            refine ⟨.slice va 4 vc, by rw [hok.out, hlfN.out]; rfl, ?_, (B3.out.setCell (p := ⟨w.heap.size, 0, none⟩) (Nat.le_refl _) _).setCell (p := ⟨w.heap.size, 1, none⟩) (Nat.le_refl _) _⟩
            rw [hok.out, if_pos rfl, hls.out]
            have O := ownS_set (ownS_set HO3.out (g := w.heap.size) (fun hj => by have := (HO3.out.lt _ hj).1; omega) 0 (.bool lf)) (g := w.heap.size) (fun hj => by have := (HO3.out.lt _ hj).1; omega) 1 (.slice va 4 vc)
            exact OwnS.mono (L := itLay) O (by omega)
      · have h6 : kk < 4 := by omega
        have RR0 : Hid (RdI .u8 w (some ⟨b, off + (1 + kk * 6), none⟩) (25 - (1 + kk * 6)) (25 - (1 + kk * 6)) (bs.drop (1 + 6 * kk))) := by
          obtain ⟨b', off', e', hc⟩ := HR.out.2 (by omega)
          cases e'
          refine Lib.hid ⟨⟨by rw [List.length_drop, HL.out]; omega, by omega, by unfold maxLen; omega, fun e => by cases e⟩, fun _ => ⟨b, off + (1 + kk * 6), rfl, fun i hi => ?_⟩⟩
          rw [List.getD_eq_getElem?_getD, List.getElem?_drop, ← List.getD_eq_getElem?_getD, Nat.add_assoc, Nat.mul_comm 6 kk]
          exact hc (1 + kk * 6 + i) (by omega)
        have RR : Hid (RdI .u8 (w1.alloc (.cells #[.bool lf, .slice va kk vc] 26)) (some ⟨b, off + (1 + kk * 6), none⟩) (25 - (1 + kk * 6)) (25 - (1 + kk * 6)) (bs.drop (1 + 6 * kk))) := Lib.hid (RdI.below RR0.out (B1.out.trans ((new_below w1 (.cells #[.bool lf, .slice va kk vc] 26)).mono B1.out.size)))
        clear RR0
        have CZ := Lib.hid (iAllZero_any (some ⟨b, off + (1 + kk * 6), none⟩) _ _ (bs.drop (1 + 6 * kk)) _ RR.out (by omega))
        clear RR
        go_wp2_with fail
        refine CZ.out.mono ?_
        rintro e w2 ⟨rfl, b2⟩
        have s2 := b2.size
        simp at s2
        obtain ⟨j0, g0⟩ := below_keep b2 (by simp; omega) _ _ ⟨k1, f1⟩
        obtain ⟨m0, n0⟩ := below_keep b2 (by simp) _ _ (blk_new w1 #[.bool lf, .slice va kk vc] 26)
        have B2 := Lib.hid (B1.out.trans ((new_below w1 (.cells #[.bool lf, .slice va kk vc] 26)).mono B1.out.size |>.trans (b2.mono (Nat.le_trans B1.out.size (by simp)))))
        have HO2 := Lib.hid (OwnS.below (OwnS.below HO.out (new_below w1 (.cells #[.bool lf, .slice va kk vc] 26))) b2)
        have hl1 : w.heap.size < w2.heap.size := by omega
        have hl2 : w1.heap.size < w2.heap.size := by omega
        clear CZ b2 k1 f1 k0 f0 HO
        cases hzr : zeros (bs.drop (1 + 6 * kk)) with
        | false =>
          have hok : Hid (okN bs = false) := by
            show okN bs = false
            cases e : okN bs with
            | false => rfl
            | true =>
              obtain ⟨-, -, h3, -⟩ := okN_told e HK.out
              rw [h3] at hzr
              cases hzr
          clear hzr
          go_wp2
          refine bodyPost_ret (v := .tuple #[.agg #[.bool false, .slice none 0 0], .bool false]) (by simp [results, Try.results11, go_sem, j0]) rfl ?_
          exact retN_no hok.out ((B2.out.setCell (p := ⟨w.heap.size, 0, none⟩) (Nat.le_refl _) _).setCell (p := ⟨w.heap.size, 1, none⟩) (Nat.le_refl _) _)
        | true =>
          have RD : Hid (RdS itLay w2 va kk vc (rawAll bs kk)) := by
            have := rdS_owns HO2.out
            rw [rawAll_len] at this
            exact Lib.hid this
          have CN := iNodeOk_any lf va kk vc (rawAll bs kk) w2 RD.out
          have m00 := m0 0
          have m01 := m0 1
          simp at m00 m01
          cases hno : nodeOkV lf (rawAll bs kk) with
          | false =>
            have hok : Hid (okN bs = false) := by
              show okN bs = false
              cases e : okN bs with
              | false => rfl
              | true =>
                obtain ⟨-, -, -, h3⟩ := okN_told e HK.out
                rw [HF.out, hno] at h3
                cases h3
            rw [hno] at CN
            replace CN := Lib.hid CN
            clear hzr hno
            go_wp2_with fail
            refine CN.out.mono ?_
            rintro e w3 ⟨rfl, b3⟩
            obtain ⟨j3, g3⟩ := below_keep b3 hl1 _ _ ⟨j0, g0⟩
            have B3 := Lib.hid (B2.out.trans (b3.mono B2.out.size))
            clear b3 j0 m0
            go_wp2
            refine bodyPost_ret (v := .tuple #[.agg #[.bool false, .slice none 0 0], .bool false]) (by simp [results, Try.results11, go_sem, j3]) rfl ?_
            exact retN_no hok.out ((B3.out.setCell (p := ⟨w.heap.size, 0, none⟩) (Nat.le_refl _) _).setCell (p := ⟨w.heap.size, 1, none⟩) (Nat.le_refl _) _)
          | true =>
            obtain ⟨y1, y2, y3⟩ := okN_read HL.out hz HK.out hzr (by rw [HF.out]; exact hno)
            have hok := Lib.hid y1
            have hlfN := Lib.hid (y2.trans HF.out)
            have hls := Lib.hid y3
            rw [hno] at CN
            replace CN := Lib.hid CN
            clear hzr hno y1 y2 y3
            go_wp2_with fail
            refine CN.out.mono ?_
            rintro e w3 ⟨rfl, b3⟩
            obtain ⟨j3, g3⟩ := below_keep b3 hl1 _ _ ⟨j0, g0⟩
            obtain ⟨m3, -⟩ := below_keep b3 hl2 _ _ ⟨m0, n0⟩
            have B3 := Lib.hid (B2.out.trans (b3.mono B2.out.size))
            have HO3 := Lib.hid (OwnS.below HO2.out b3)
            clear b3 j0 m0 m00 m01
            go_wp2
            refine bodyPost_ret (v := .tuple #[.agg #[.bool lf, .slice va kk vc], .bool true]) (by simp [results, Try.results11, go_sem, j3]) rfl ?_
            refine ⟨.slice va kk vc, by rw [hok.out, hlfN.out]; rfl, ?_, (B3.out.setCell (p := ⟨w.heap.size, 0, none⟩) (Nat.le_refl _) _).setCell (p := ⟨w.heap.size, 1, none⟩) (Nat.le_refl _) _⟩
            rw [hok.out, if_pos rfl, hls.out]
            have O := ownS_set (ownS_set HO3.out (g := w.heap.size) (fun hj => by have := (HO3.out.lt _ hj).1; omega) 0 (.bool lf)) (g := w.heap.size) (fun hj => by have := (HO3.out.lt _ hj).1; omega) 1 (.slice va kk vc)
            exact OwnS.mono (L := itLay) O (by omega)
  · have hne : ((n : Int) != 25) = true := by rw [bne_iff_ne]; omega
    have hok : Hid (okN bs = false) := Lib.hid (okN_len (by rw [HL.out]; exact h25))
    clear h h25
    go_enter Try.func11, Try.ntmps11
    go_wp2
    refine bodyPost_ret (v := .tuple #[.agg #[.bool false, .slice none 0 0], .bool false]) (by simp [results, Try.results11, go_sem]) rfl ?_
    exact retN_no hok.out B0.out
end Go.Proofs.Ytfgmjegemlkkkaa

/- The program's PutEntry. -/
namespace Go.Proofs.Ytfgmjegemlkkkaa
open Go.RowKit

set_option maxHeartbeats 3200000 in
set_option maxRecDepth 100000 in
theorem iPutEntry_any : CPutEntry 21 := by
  intro x w
  obtain ⟨W0, hW0⟩ : ∃ W0, W0 = w.alloc (.cells #[.int .i64 x.id, .int .i64 x.x0, .int .i64 x.y0, .int .i64 x.x1, .int .i64 x.y1] 35) := ⟨_, rfl⟩
  have hs0 : W0.heap.size = w.heap.size + 1 := by subst hW0; simp
  have B0 : Hid (Below w.heap.size w W0) := by subst hW0; exact new_below w _
  have K : Hid (∀ o, W0.cell? ⟨w.heap.size, o, none⟩ = #[Value.int .i64 x.id, .int .i64 x.x0, .int .i64 x.y0, .int .i64 x.x1, .int .i64 x.y1][o]?) := by subst hW0; exact (blk_new w _ _).1
  have k := K.out
  by_cases h : 0 ≤ x.id ∧ x.id ≤ 65535
  · obtain ⟨h1, h2⟩ := h
    have CB := iBoxOk_any x.x0 x.y0 x.x1 x.y1
    cases hb : okB x.x0 x.y0 x.x1 x.y1 with
    | true =>
      have hr : Hid (putE x = [x.id / 256, x.id % 256, x.x0, x.y0, x.x1, x.y1]) := if_pos ⟨⟨h1, h2⟩, hb⟩
      rw [hb] at CB
      replace CB := Lib.hid CB
      have hp : Hid (put2 [] x.id = [x.id / 256, x.id % 256]) := by show put2 [] x.id = _; unfold put2; rw [if_pos ⟨h1, h2⟩]; rfl
      have hwf := Lib.hid (wf_small x.id (by omega) (by omega))
      have hbd := (okB_iff _ _ _ _).1 hb
      obtain ⟨b0, b1, b2, b3, b4, b5, b6, b7⟩ : 0 ≤ x.x0 ∧ x.x0 ≤ 255 ∧ 0 ≤ x.y0 ∧ x.y0 ≤ 255 ∧ 0 ≤ x.x1 ∧ x.x1 ≤ 255 ∧ 0 ≤ x.y1 ∧ x.y1 ≤ 255 := by omega
      clear hbd hb
      have HL0 : ([x.id / 256, x.id % 256] ++ [IntKind.u8.wrap x.x0, IntKind.u8.wrap x.y0, IntKind.u8.wrap x.x1, IntKind.u8.wrap x.y1] : List Int) = putE x := by
        rw [hr.out, u8_wrap b0 b1, u8_wrap b2 b3, u8_wrap b4 b5, u8_wrap b6 b7]
        rfl
      replace HL0 := Lib.hid HL0
      have KS := Lib.hid (show ∀ V, Below W0.heap.size W0 V → (fun V => Below W0.heap.size W0 V ∧ V.cell? ⟨w.heap.size, 0, none⟩ = some (.int .i64 x.id) ∧ V.cell? ⟨w.heap.size, 1, none⟩ = some (.int .i64 x.x0) ∧ V.cell? ⟨w.heap.size, 2, none⟩ = some (.int .i64 x.y0) ∧ V.cell? ⟨w.heap.size, 3, none⟩ = some (.int .i64 x.x1) ∧ V.cell? ⟨w.heap.size, 4, none⟩ = some (.int .i64 x.y1)) V from fun V b => ⟨b, (b.cell (p := ⟨w.heap.size, 0, none⟩) (show w.heap.size < W0.heap.size by omega)).trans (K.out 0), (b.cell (p := ⟨w.heap.size, 1, none⟩) (show w.heap.size < W0.heap.size by omega)).trans (K.out 1), (b.cell (p := ⟨w.heap.size, 2, none⟩) (show w.heap.size < W0.heap.size by omega)).trans (K.out 2), (b.cell (p := ⟨w.heap.size, 3, none⟩) (show w.heap.size < W0.heap.size by omega)).trans (K.out 3), (b.cell (p := ⟨w.heap.size, 4, none⟩) (show w.heap.size < W0.heap.size by omega)).trans (K.out 4)⟩)
      have KT := Lib.hid (show ∀ V V' : World, Below W0.heap.size W0 V → Below V.heap.size V V' → Below W0.heap.size W0 V' from fun V V' b b' => b.trans (b'.mono b.size))
      have KA := Lib.hid (show ∀ (V : World) (O : Obj), Below W0.heap.size W0 V → Below W0.heap.size W0 (V.alloc O) from fun V O b => b.alloc b.size O)
      have RN := Lib.hid (fun W : World => rdI_new W .u8 [IntKind.u8.wrap x.x0, IntKind.u8.wrap x.y0, IntKind.u8.wrap x.x1, IntKind.u8.wrap x.y1] #[.int .u8 (IntKind.u8.wrap x.x0), .int .u8 (IntKind.u8.wrap x.y0), .int .u8 (IntKind.u8.wrap x.x1), .int .u8 (IntKind.u8.wrap x.y1)] 5 4 rfl rfl (by simp [maxLen]))
      go_enter Try.func21, Try.ntmps21
      go_wp2_with fail
      rw [← hW0]
      refine (CB.out _).mono ?_
      rintro e w2 ⟨rfl, hb2⟩
      have KD := Lib.hid (show Below W0.heap.size W0 w2.drew from hb2.drew)
      have KX1 := Lib.hid (show ∀ O : Obj, Below W0.heap.size W0 (w2.alloc O).drew from fun O => (hb2.alloc hb2.size O).drew)
      go_wp2_with fail
      go_region_held3 (fun V => Below W0.heap.size W0 V ∧ V.cell? ⟨w.heap.size, 0, none⟩ = some (.int .i64 x.id) ∧ V.cell? ⟨w.heap.size, 1, none⟩ = some (.int .i64 x.x0) ∧ V.cell? ⟨w.heap.size, 2, none⟩ = some (.int .i64 x.y0) ∧ V.cell? ⟨w.heap.size, 3, none⟩ = some (.int .i64 x.x1) ∧ V.cell? ⟨w.heap.size, 4, none⟩ = some (.int .i64 x.y1))
        (first | exact KS.out _ KD.out | exact KS.out _ (KX1.out _) | exact KS.out _ hbw.out | exact KS.out _ hbx.out | exact KS.out _ (KA.out _ _ hbw.out))
        (first
          | (go_at_call 57; (with_reducible refine (put2_any none 0 0 [] x.id _ (rdI_nil _ _) (by omega) hwf.out).mono ?_); rintro e w3 ⟨v3, rfl, o3, hb⟩; rw [hp.out] at o3; obtain ⟨a3, c3, rfl, r3⟩ := o3.rd; have hbw := Lib.hid (KT.out _ _ (And.left (by assumption)) hb))
          | (go_at_call 56; (with_reducible refine (joined_any a3 (some ⟨w3.heap.size, 0, none⟩) 2 c3 4 4 [x.id / 256, x.id % 256] [IntKind.u8.wrap x.x0, IntKind.u8.wrap x.y0, IntKind.u8.wrap x.x1, IntKind.u8.wrap x.y1] _ (RdI.below r3 (new_below w3 (.cells #[.int .u8 (IntKind.u8.wrap x.x0), .int .u8 (IntKind.u8.wrap x.y0), .int .u8 (IntKind.u8.wrap x.x1), .int .u8 (IntKind.u8.wrap x.y1)] 5))) (RN.out w3) (by omega) (by omega)).mono ?_); rintro e w5 ⟨v5, rfl, o5, b5⟩; have hbx := Lib.hid (KT.out _ _ (KA.out w3 (.cells #[.int .u8 (IntKind.u8.wrap x.x0), .int .u8 (IntKind.u8.wrap x.y0), .int .u8 (IntKind.u8.wrap x.x1), .int .u8 (IntKind.u8.wrap x.y1)] 5) hbw.out) b5); have hsz := Lib.hid (KA.out w3 (.cells #[.int .u8 (IntKind.u8.wrap x.x0), .int .u8 (IntKind.u8.wrap x.y0), .int .u8 (IntKind.u8.wrap x.x1), .int .u8 (IntKind.u8.wrap x.y1)] 5) hbw.out).size)
          | (go_at_call 56; (with_reducible refine (joined_any a3 (some ⟨w2.heap.size, 0, none⟩) 2 c3 4 4 [x.id / 256, x.id % 256] [IntKind.u8.wrap x.x0, IntKind.u8.wrap x.y0, IntKind.u8.wrap x.x1, IntKind.u8.wrap x.y1] _ r3 (by have := ((RN.out w2).below (drew_below _)).below hb; simpa using this) (by omega) (by omega)).mono ?_); rintro e w5 ⟨v5, rfl, o5, b5⟩; have hbx := Lib.hid (KT.out _ _ hbw.out b5); have hsz := Lib.hid hbw.out.size))
      all_goals
        rw [HL0.out] at o5
        have H5 := Lib.hid o5
        clear o5
        go_wp2
        go_ret
        exact ⟨_, rfl, Own.mono H5.out (by have := hsz.out; omega), B0.out.trans (hbx.out.mono (by omega))⟩
    | false =>
      have hr : Hid (putE x = []) := if_neg (fun h => by rw [hb] at h; exact Bool.noConfusion h.2)
      rw [hb] at CB
      replace CB := Lib.hid CB
      clear hb
      go_enter Try.func21, Try.ntmps21
      go_wp2_with fail
      rw [← hW0]
      refine (CB.out _).mono ?_
      rintro e w2 ⟨rfl, hb2⟩
      replace hb2 := Lib.hid (B0.out.trans (hb2.mono B0.out.size))
      go_wp2
      go_ret
      refine ⟨_, rfl, ?_, hb2.out.alloc hb2.out.size _⟩
      rw [hr.out]
      exact own8_nil w2 w.heap.size w2.heap.size rfl hb2.out.size
  · have hr : Hid (putE x = []) := if_neg (fun h' => h h'.1)
    by_cases h0 : x.id < 0
    · go_enter Try.func21, Try.ntmps21
      go_wp2
      go_ret
      subst hW0
      refine ⟨_, rfl, ?_, B0.out.alloc B0.out.size _⟩
      rw [hr.out]
      exact own8_nil (w.alloc (.cells #[.int .i64 x.id, .int .i64 x.x0, .int .i64 x.y0, .int .i64 x.x1, .int .i64 x.y1] 35)) w.heap.size (w.heap.size + 1) (by simp) (by omega)
    · have h1 : 65535 < x.id := by omega
      go_enter Try.func21, Try.ntmps21
      go_wp2
      go_ret
      subst hW0
      refine ⟨_, rfl, ?_, B0.out.alloc B0.out.size _⟩
      rw [hr.out]
      exact own8_nil (w.alloc (.cells #[.int .i64 x.id, .int .i64 x.x0, .int .i64 x.y0, .int .i64 x.x1, .int .i64 x.y1] 35)) w.heap.size (w.heap.size + 1) (by simp) (by omega)
end Go.Proofs.Ytfgmjegemlkkkaa

/- The program's PutNode. -/
namespace Go.Proofs.Ytfgmjegemlkkkaa
open Go.RowKit

set_option maxHeartbeats 3200000 in
set_option maxRecDepth 100000 in
theorem iPutNode_yes (b : Bool) (a : Option Addr) (n cap : Nat) (xs : List It) (w : World) (h : RdS itLay w a n cap xs) (hn : n ≤ 1099511627776) (hok : nodeOkV b xs = true) :
    Calls Try.prog 10 #[.agg #[.bool b, .slice a n cap]] w (Fresh8 w (pad (bodyN b xs) 25)) := by
  obtain ⟨i0, hi, hz0, hz1, hz2⟩ := info_parts Try.infoU8
  replace hi := Lib.hid hi
  replace hz0 := Lib.hid hz0
  replace hz1 := Lib.hid hz1
  replace hz2 := Lib.hid hz2
  have h4 := nodeOkV_len hok
  have hnc := h.1.2.1
  have hm := h.1.2.2.1
  unfold maxLen at hm
  have HR := Lib.hid h
  have HL := Lib.hid h.1.1
  rw [h.1.1] at h4
  have B0 := Lib.hid (new_below w (.cells #[.bool b, .slice a n cap] 26))
  have K0 := Lib.hid (blk_new w #[.bool b, .slice a n cap] 26)
  have CN := iNodeOk_any b a n cap xs _ (h.below B0.out)
  rw [hok] at CN
  replace CN := Lib.hid CN
  have k00 := K0.out.1 0
  have k01 := K0.out.1 1
  simp at k00 k01
  clear h hok
  go_enter Try.func10, Try.ntmps10
  go_wp2_with fail
  refine CN.out.mono ?_
  rintro e w1 ⟨rfl, hb⟩
  obtain ⟨k0, -⟩ := below_keep hb (by simp) _ _ K0.out
  have B1 := Lib.hid (B0.out.trans (hb.mono B0.out.size))
  have s1 := hb.size
  simp at s1
  clear hb k00 k01 K0
  have c0 := k0 0
  have c1 := k0 1
  simp at c0 c1
  cases b with
  | true =>
    have hh : headN true n = (n : Int) + 16 := if_pos rfl
    have hqw : IntKind.u8.wrap ((n : Int) + 16) = (n : Int) + 16 := u8_wrap (by omega) (by omega)
    have O1 : Hid (Own .u8 5 (w1.alloc (.cells #[.int .u8 ((n : Int) + 16)] 5)) (w.heap.size + 1) (.slice (some ⟨w1.heap.size, 0, none⟩) 1 1) (partN true xs 0)) := by
      rw [partN_nil, HL.out, hh]
      exact Lib.hid (World.ownsRow_lit w1 #[.int .u8 ((n : Int) + 16)] 1 (by omega) (by simp [maxLen]) rfl)
    have hS1 := Lib.hid (show w.heap.size + 1 ≤ (w1.alloc (.cells #[.int .u8 ((n : Int) + 16)] 5)).heap.size by simp; omega)
    have k1 := Lib.hid (show ∀ o, (w1.alloc (.cells #[.int .u8 ((n : Int) + 16)] 5)).cell? ⟨w.heap.size, o, none⟩ = #[Value.bool true, .slice a n cap][o]? from fun o => (World.cell?_alloc_lt w1 _ ⟨w.heap.size, o, none⟩ (by show w.heap.size < _; omega)).trans (k0 o))
    replace B1 := Lib.hid (B1.out.alloc B1.out.size (.cells #[.int .u8 ((n : Int) + 16)] 5))
    have hl1 := Lib.hid (show (partN true xs 0).length = 1 by rw [partN_nil]; rfl)
    clear hh
    have hq2 : w.heap.size < w1.heap.size := by omega
    go_wp2
    clear c0 c1 k0 hqw hq2
    go_loopw [4, 24] (fun v i wr => ∃ (k m : Nat) (va : Option Addr) (vc : Nat), k ≤ n ∧ v = .slice va m vc ∧ i = .int .i64 (k : Int) ∧ Hid ((partN true xs k).length = m) ∧ (∀ o, wr.cell? ⟨w.heap.size, o, none⟩ = #[Value.bool true, .slice a n cap][o]?) ∧ Hid (Own .u8 5 wr (w.heap.size + 1) (.slice va m vc) (partN true xs k)) ∧ Below w.heap.size w wr ∧ w.heap.size + 1 ≤ wr.heap.size) (fun _ i _ => n - (intOf i).toNat)
    case atStart => exact ⟨0, 1, _, _, Nat.zero_le _, rfl, rfl, hl1, k1.out, O1, B1.out, hS1.out⟩
    case round =>
      clear hl1 k1 O1 B1 hS1
      obtain ⟨k, m, va, vc, hk, rfl, rfl, hl, k0, HO, hB, hS⟩ := hrel
      have c1 := k0 1
      simp at c1
      by_cases hlt : k < n
      · obtain ⟨bb, off, x, rfl, hbl, hx, d0, d1, d2, d3, d4⟩ := rdIt_at (HR.out.below hB) hlt
        have HX := Lib.hid hx
        have z0 : (0 : Int) ≤ k := by omega
        have z1 : (k : Int) < n := by omega
        obtain ⟨wa, hwa⟩ : ∃ wa, wa = wr.alloc (.cells #[.int .i64 x.id, .int .i64 x.x0, .int .i64 x.y0, .int .i64 x.x1, .int .i64 x.y1] 35) := ⟨_, rfl⟩
        have bwa : Below wr.heap.size wr wa := by rw [hwa]; exact new_below wr _
        clear hx
        go_wp2_with fail
        rw [← hwa]
        have hB := hB.trans (bwa.mono hB.size)
        have k0 := keepc bwa (by show w.heap.size < _; omega) k0
        have HO := Lib.hid (HO.out.below bwa)
        have hS : w.heap.size + 1 ≤ wa.heap.size := Nat.le_trans hS bwa.size
        clear bwa hwa
        refine (iPutEntry_any x wa).mono ?_
        rintro e w2 ⟨v2, rfl, o2, b2⟩
        obtain ⟨a2, c2, rfl, r2⟩ := Own.rd o2
        have k2 := keepc b2 (by show w.heap.size < _; omega) k0
        have HO2 := HO.out.below b2
        have B2 := hB.trans (b2.mono hB.size)
        have s2 := b2.size
        have HO2' : w2.ownsRow (w.heap.size + 1) 5 1 (.slice va m vc) m ((partN true xs k).map (Value.int .u8)) := by
          have := HO2
          unfold Own at this
          rw [hl.out] at this
          exact this
        have HH := Lib.hid HO2'
        have R2 := Lib.hid r2
        have hE := putE_le x
        have hL1 := partN_le true xs k
        rw [HL.out, hl.out] at hL1
        clear o2 b2 HO HO2 HO2' r2 d0 d1 d2 d3 d4
        go_wp2_with (at_builtin; refine append_src rfl (.tmp 28) (.tmp 30) 22 rfl (w.heap.size + 1) 5 i0 (.int .u8 0) 1 1 Try.underlying22 hi.out hz0.out hz1.out hz2.out rfl (by decide) (.slice va m vc) m ((partN true xs k).map (Value.int .u8)) rfl HH.out a2 (putE x).length c2 ((putE x).map (Value.int .u8)) rfl ?_ R2.out.1.2.2.2 R2.out.news (ints_oneCell _ _) ?_ ?_ ?_ ?_)
        case refine_1 => rw [List.length_map, Nat.mul_one]
        case refine_2 => unfold maxLen; omega
        case refine_3 => omega
        case refine_4 => omega
        intro v3 w3 o3 g3
        obtain ⟨a3, c3, rfl⟩ := owns_shape o3
        have hrow : ∀ j, (Value.slice va m vc).ownBlock = some j → w.heap.size + 1 ≤ j := fun j hj => (HH.out.lt j hj).1
        have O3 : Hid (Own .u8 5 w3 (w.heap.size + 1) (.slice a3 (m + (putE x).length) c3) (partN true xs (k + 1))) := by
          unfold Own
          rw [partN_more HX.out, List.length_append, hl.out, List.map_append]
          exact Lib.hid o3
        have hl3 : Hid ((partN true xs (k + 1)).length = m + (putE x).length) := by
          show _ = _
          rw [partN_more HX.out, List.length_append, hl.out]
        have k3 := Lib.hid (fresh_cells g3 hrow k2 (by omega) (by omega))
        have B3 := Lib.hid (B2.grown g3 B2.size (fun j hj => by have := hrow j hj; omega))
        have s3 := g3.size
        clear o3 g3 B2 k2 hB k0 hrow
        go_wp2
        go_roundw
        case rel => exact ⟨k + 1, m + (putE x).length, a3, c3, by omega, by go_num, by go_num, hl3, k3.out, O3, B3.out, by omega⟩
        case measure => simp [intOf]; omega
      · obtain rfl : k = n := by omega
        have hall : Hid (partN true xs k = bodyN true xs) := Lib.hid (partN_all (by rw [HL.out]; exact Nat.le_refl _))
        obtain ⟨a4, c4, hv4, r4⟩ := Own.rd HO.out
        rw [hl.out] at hv4 r4
        simp only [Value.slice.injEq, true_and] at hv4
        obtain ⟨rfl, rfl⟩ := hv4
        have hL1 := partN_le true xs k
        rw [HL.out, hl.out] at hL1
        have CP := Lib.hid (pad_any va m vc (partN true xs k) 25 wr r4 (by omega) (wf_small 25 (by omega) (by omega)))
        clear r4 HO hL1
        go_wp2_with fail
        refine CP.out.mono ?_
        rintro e w5 ⟨v5, rfl, o5, b5⟩
        rw [hall.out] at o5
        replace o5 := Lib.hid o5
        replace b5 := Lib.hid (hB.trans (b5.mono hB.size))
        go_wp2
        go_ret
        exact ⟨_, rfl, Own.mono o5.out hB.size, b5.out⟩
  | false =>
    have hh : headN false n = (n : Int) := if_neg (by simp)
    have hqw : IntKind.u8.wrap ((n : Int)) = (n : Int) := u8_wrap (by omega) (by omega)
    have O1 : Hid (Own .u8 5 (w1.alloc (.cells #[.int .u8 ((n : Int))] 5)) (w.heap.size + 1) (.slice (some ⟨w1.heap.size, 0, none⟩) 1 1) (partN false xs 0)) := by
      rw [partN_nil, HL.out, hh]
      exact Lib.hid (World.ownsRow_lit w1 #[.int .u8 ((n : Int))] 1 (by omega) (by simp [maxLen]) rfl)
    have hS1 := Lib.hid (show w.heap.size + 1 ≤ (w1.alloc (.cells #[.int .u8 ((n : Int))] 5)).heap.size by simp; omega)
    have k1 := Lib.hid (show ∀ o, (w1.alloc (.cells #[.int .u8 ((n : Int))] 5)).cell? ⟨w.heap.size, o, none⟩ = #[Value.bool false, .slice a n cap][o]? from fun o => (World.cell?_alloc_lt w1 _ ⟨w.heap.size, o, none⟩ (by show w.heap.size < _; omega)).trans (k0 o))
    replace B1 := Lib.hid (B1.out.alloc B1.out.size (.cells #[.int .u8 ((n : Int))] 5))
    have hl1 := Lib.hid (show (partN false xs 0).length = 1 by rw [partN_nil]; rfl)
    clear hh
    have hq2 : w.heap.size < w1.heap.size := by omega
    go_wp2
    clear c0 c1 k0 hqw hq2
    go_loopw [4, 24] (fun v i wr => ∃ (k m : Nat) (va : Option Addr) (vc : Nat), k ≤ n ∧ v = .slice va m vc ∧ i = .int .i64 (k : Int) ∧ Hid ((partN false xs k).length = m) ∧ (∀ o, wr.cell? ⟨w.heap.size, o, none⟩ = #[Value.bool false, .slice a n cap][o]?) ∧ Hid (Own .u8 5 wr (w.heap.size + 1) (.slice va m vc) (partN false xs k)) ∧ Below w.heap.size w wr ∧ w.heap.size + 1 ≤ wr.heap.size) (fun _ i _ => n - (intOf i).toNat)
    case atStart => exact ⟨0, 1, _, _, Nat.zero_le _, rfl, rfl, hl1, k1.out, O1, B1.out, hS1.out⟩
    case round =>
      clear hl1 k1 O1 B1 hS1
      obtain ⟨k, m, va, vc, hk, rfl, rfl, hl, k0, HO, hB, hS⟩ := hrel
      have c1 := k0 1
      simp at c1
      by_cases hlt : k < n
      · obtain ⟨bb, off, x, rfl, hbl, hx, d0, d1, d2, d3, d4⟩ := rdIt_at (HR.out.below hB) hlt
        have HX := Lib.hid hx
        have z0 : (0 : Int) ≤ k := by omega
        have z1 : (k : Int) < n := by omega
        obtain ⟨wa, hwa⟩ : ∃ wa, wa = wr.alloc (.cells #[.int .i64 x.id, .int .i64 x.x0, .int .i64 x.y0, .int .i64 x.x1, .int .i64 x.y1] 35) := ⟨_, rfl⟩
        have bwa : Below wr.heap.size wr wa := by rw [hwa]; exact new_below wr _
        clear hx
        go_wp2_with fail
        rw [← hwa]
        have hB := hB.trans (bwa.mono hB.size)
        have k0 := keepc bwa (by show w.heap.size < _; omega) k0
        have HO := Lib.hid (HO.out.below bwa)
        have hS : w.heap.size + 1 ≤ wa.heap.size := Nat.le_trans hS bwa.size
        clear bwa hwa
        refine (iPutEntry_any x wa).mono ?_
        rintro e w2 ⟨v2, rfl, o2, b2⟩
        obtain ⟨a2, c2, rfl, r2⟩ := Own.rd o2
        have k2 := keepc b2 (by show w.heap.size < _; omega) k0
        have HO2 := HO.out.below b2
        have B2 := hB.trans (b2.mono hB.size)
        have s2 := b2.size
        have HO2' : w2.ownsRow (w.heap.size + 1) 5 1 (.slice va m vc) m ((partN false xs k).map (Value.int .u8)) := by
          have := HO2
          unfold Own at this
          rw [hl.out] at this
          exact this
        have HH := Lib.hid HO2'
        have R2 := Lib.hid r2
        have hE := putE_le x
        have hL1 := partN_le false xs k
        rw [HL.out, hl.out] at hL1
        clear o2 b2 HO HO2 HO2' r2 d0 d1 d2 d3 d4
        go_wp2_with (at_builtin; refine append_src rfl (.tmp 28) (.tmp 30) 22 rfl (w.heap.size + 1) 5 i0 (.int .u8 0) 1 1 Try.underlying22 hi.out hz0.out hz1.out hz2.out rfl (by decide) (.slice va m vc) m ((partN false xs k).map (Value.int .u8)) rfl HH.out a2 (putE x).length c2 ((putE x).map (Value.int .u8)) rfl ?_ R2.out.1.2.2.2 R2.out.news (ints_oneCell _ _) ?_ ?_ ?_ ?_)
        case refine_1 => rw [List.length_map, Nat.mul_one]
        case refine_2 => unfold maxLen; omega
        case refine_3 => omega
        case refine_4 => omega
        intro v3 w3 o3 g3
        obtain ⟨a3, c3, rfl⟩ := owns_shape o3
        have hrow : ∀ j, (Value.slice va m vc).ownBlock = some j → w.heap.size + 1 ≤ j := fun j hj => (HH.out.lt j hj).1
        have O3 : Hid (Own .u8 5 w3 (w.heap.size + 1) (.slice a3 (m + (putE x).length) c3) (partN false xs (k + 1))) := by
          unfold Own
          rw [partN_more HX.out, List.length_append, hl.out, List.map_append]
          exact Lib.hid o3
        have hl3 : Hid ((partN false xs (k + 1)).length = m + (putE x).length) := by
          show _ = _
          rw [partN_more HX.out, List.length_append, hl.out]
        have k3 := Lib.hid (fresh_cells g3 hrow k2 (by omega) (by omega))
        have B3 := Lib.hid (B2.grown g3 B2.size (fun j hj => by have := hrow j hj; omega))
        have s3 := g3.size
        clear o3 g3 B2 k2 hB k0 hrow
        go_wp2
        go_roundw
        case rel => exact ⟨k + 1, m + (putE x).length, a3, c3, by omega, by go_num, by go_num, hl3, k3.out, O3, B3.out, by omega⟩
        case measure => simp [intOf]; omega
      · obtain rfl : k = n := by omega
        have hall : Hid (partN false xs k = bodyN false xs) := Lib.hid (partN_all (by rw [HL.out]; exact Nat.le_refl _))
        obtain ⟨a4, c4, hv4, r4⟩ := Own.rd HO.out
        rw [hl.out] at hv4 r4
        simp only [Value.slice.injEq, true_and] at hv4
        obtain ⟨rfl, rfl⟩ := hv4
        have hL1 := partN_le false xs k
        rw [HL.out, hl.out] at hL1
        have CP := Lib.hid (pad_any va m vc (partN false xs k) 25 wr r4 (by omega) (wf_small 25 (by omega) (by omega)))
        clear r4 HO hL1
        go_wp2_with fail
        refine CP.out.mono ?_
        rintro e w5 ⟨v5, rfl, o5, b5⟩
        rw [hall.out] at o5
        replace o5 := Lib.hid o5
        replace b5 := Lib.hid (hB.trans (b5.mono hB.size))
        go_wp2
        go_ret
        exact ⟨_, rfl, Own.mono o5.out hB.size, b5.out⟩

set_option maxHeartbeats 400000 in
set_option maxRecDepth 100000 in
theorem iPutNode_any : CPutNode 10 := by
  intro b a n cap xs w h hn
  cases hok : nodeOkV b xs with
  | true =>
    have hr : putN b xs = pad (bodyN b xs) 25 := if_pos hok
    rw [hr]
    exact iPutNode_yes b a n cap xs w h hn hok
  | false =>
    have hr : Hid (putN b xs = []) := if_neg (by rw [hok]; exact Bool.false_ne_true)
    have B0 := Lib.hid (new_below w (.cells #[.bool b, .slice a n cap] 26))
    have CN := iNodeOk_any b a n cap xs _ (h.below B0.out)
    rw [hok] at CN
    replace CN := Lib.hid CN
    have K0 := (blk_new w #[.bool b, .slice a n cap] 26).1
    have k00 := K0 0
    have k01 := K0 1
    simp at k00 k01
    clear h hok
    go_enter Try.func10, Try.ntmps10
    go_wp2_with fail
    refine CN.out.mono ?_
    rintro e w1 ⟨rfl, hb⟩
    have B1 := Lib.hid (B0.out.trans (hb.mono B0.out.size))
    clear hb
    go_wp2
    go_ret
    refine ⟨_, rfl, ?_, B1.out.alloc B1.out.size _⟩
    rw [hr.out]
    exact own8_nil w1 w.heap.size w1.heap.size rfl B1.out.size
end Go.Proofs.Ytfgmjegemlkkkaa
