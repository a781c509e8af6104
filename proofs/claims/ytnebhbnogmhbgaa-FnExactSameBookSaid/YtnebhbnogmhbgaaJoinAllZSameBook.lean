/- The join of all rectangles of a slice: the program's and the model's functions. -/
import Derived.Test.YtnebhbnogmhbgaaQSameBooka
import Derived.Deep.RegionWith
namespace Go.Proofs.Ytnebhbnogmhbgaa
open Go.RowKit

def joinB (a b : Bx) : Bx := ⟨lst a.x0 b.x0, lst a.y0 b.y0, mst a.x1 b.x1, mst a.y1 b.y1⟩
def joinAll : List Bx → Bx
  | [] => ⟨0, 0, 0, 0⟩
  | b :: l => l.foldl joinB b
theorem joinAll_snoc (l : List Bx) (x : Bx) (h : l ≠ []) : joinAll (l ++ [x]) = joinB (joinAll l) x := by
  cases l with
  | nil => exact absurd rfl h
  | cons b l => simp [joinAll, List.foldl_append]
theorem joinAll_take (xs : List Bx) (k : Nat) (x : Bx) (hk : 1 ≤ k) (hx : xs[k]? = some x) : joinAll (xs.take (k + 1)) = joinB (joinAll (xs.take k)) x := by
  obtain ⟨hlt, rfl⟩ := List.getElem?_eq_some_iff.1 hx
  rw [List.take_succ_eq_append_getElem hlt]
  exact joinAll_snoc _ _ (by intro h; have := congrArg List.length h; simp only [List.length_take, List.length_nil] at this; omega)
theorem joinAll_one (xs : List Bx) (x : Bx) (hx : xs[0]? = some x) : joinAll (xs.take 1) = x := by
  cases xs with
  | nil => simp at hx
  | cons b l => simp at hx; subst hx; rfl

/-- A rectangle is handed back. -/
def RetBox (b : Bx) (w : World) (e : Ending) (w' : World) : Prop := e = .returned (.agg #[.int .i64 b.x0, .int .i64 b.y0, .int .i64 b.x1, .int .i64 b.y1]) ∧ Below w.heap.size w w'

/-- In the middle of the loop: the result's block is untouched; the variable's block holds b. -/
def Mid (w wr : World) (b : Bx) : Prop :=
  (Below w.heap.size w wr ∧ w.heap.size + 2 ≤ wr.heap.size) ∧
  ((∀ o, wr.cell? ⟨w.heap.size, o, none⟩ = #[Value.int .i64 0, .int .i64 0, .int .i64 0, .int .i64 0][o]?) ∧ (∀ o, wr.frozen? ⟨w.heap.size, o, none⟩ = false)) ∧
  ((∀ o, wr.cell? ⟨w.heap.size + 1, o, none⟩ = #[Value.int .i64 b.x0, .int .i64 b.y0, .int .i64 b.x1, .int .i64 b.y1][o]?) ∧ (∀ o, wr.frozen? ⟨w.heap.size + 1, o, none⟩ = false))
theorem mid_start (w : World) (b : Bx) (t : TypeId) : Mid w ((w.alloc (.cells #[.int .i64 0, .int .i64 0, .int .i64 0, .int .i64 0] t)).alloc (.cells #[.int .i64 b.x0, .int .i64 b.y0, .int .i64 b.x1, .int .i64 b.y1] t)) b :=
  ⟨⟨((new_below w _).trans ((new_below _ _).mono (show w.heap.size ≤ _ by simp))), by simp⟩, blk_alloc _ (by simp) _ _ (blk_new w _ t), blk_new1 w _ _ t⟩
/-- A block of four cells is written whole. -/
theorem blk_write {W : World} {b : Nat} {x y z u : Value} {x' y' z' u' : Value} (hk : (∀ o, W.cell? ⟨b, o, none⟩ = #[x, y, z, u][o]?) ∧ (∀ o, W.frozen? ⟨b, o, none⟩ = false)) :
    (∀ o, ((((W.setCell ⟨b, 0, none⟩ x').setCell ⟨b, 1, none⟩ y').setCell ⟨b, 2, none⟩ z').setCell ⟨b, 3, none⟩ u').cell? ⟨b, o, none⟩ = #[x', y', z', u'][o]?) ∧
    (∀ o, ((((W.setCell ⟨b, 0, none⟩ x').setCell ⟨b, 1, none⟩ y').setCell ⟨b, 2, none⟩ z').setCell ⟨b, 3, none⟩ u').frozen? ⟨b, o, none⟩ = false) := by
  refine ⟨fun o => ?_, fun o => ?_⟩
  · have h0 := hk.1 0; have h1 := hk.1 1; have h2 := hk.1 2; have h3 := hk.1 3; have ho := hk.1 o
    match o, ho with
    | 0, _ => simp [go_sem, h0]
    | 1, _ => simp [go_sem, h1]
    | 2, _ => simp [go_sem, h2]
    | 3, _ => simp [go_sem, h3]
    | o + 4, ho =>
      rw [World.cell?_setCell_other _ _ _ _ (by simp), World.cell?_setCell_other _ _ _ _ (by simp), World.cell?_setCell_other _ _ _ _ (by simp), World.cell?_setCell_other _ _ _ _ (by simp), ho]
      simp
  · have := hk.2 o
    simp [go_sem, this]
theorem blk_far {W : World} {b p j : Nat} {u : Value} (h : b ≠ p) (f : Nat → Option Value) (m : Nat → Bool) (hk : (∀ o, W.cell? ⟨b, o, none⟩ = f o) ∧ (∀ o, W.frozen? ⟨b, o, none⟩ = m o)) :
    (∀ o, (W.setCell ⟨p, j, none⟩ u).cell? ⟨b, o, none⟩ = f o) ∧ (∀ o, (W.setCell ⟨p, j, none⟩ u).frozen? ⟨b, o, none⟩ = m o) :=
  ⟨fun o => (World.cell?_setCell_far _ _ _ _ (fun e => h e.symm)).trans (hk.1 o), fun o => by have := hk.2 o; simpa [go_sem] using this⟩
/-- A round: a callee that makes memory alone, then the variable is written. -/
theorem mid_step {w W wr : World} {b b' : Bx} (h : Mid w W b) (hj : Below W.heap.size W wr) :
    Mid w ((((wr.setCell ⟨w.heap.size + 1, 0, none⟩ (.int .i64 b'.x0)).setCell ⟨w.heap.size + 1, 1, none⟩ (.int .i64 b'.y0)).setCell ⟨w.heap.size + 1, 2, none⟩ (.int .i64 b'.x1)).setCell ⟨w.heap.size + 1, 3, none⟩ (.int .i64 b'.y1)) b' := by
  obtain ⟨⟨hB, hz⟩, h0, h1⟩ := h
  have hs := hj.size
  have k0 := below_keep hj (show w.heap.size < _ by omega) _ _ h0
  have k1 := below_keep hj (show w.heap.size + 1 < _ by omega) _ _ h1
  refine ⟨⟨((((hB.trans (hj.mono (by omega))).setCell (p := ⟨w.heap.size + 1, 0, none⟩) (Nat.le_succ _) _).setCell (p := ⟨w.heap.size + 1, 1, none⟩) (Nat.le_succ _) _).setCell (p := ⟨w.heap.size + 1, 2, none⟩) (Nat.le_succ _) _).setCell (p := ⟨w.heap.size + 1, 3, none⟩) (Nat.le_succ _) _, by simp; omega⟩, ?_, blk_write k1⟩
  exact blk_far (by omega) _ _ (blk_far (by omega) _ _ (blk_far (by omega) _ _ (blk_far (by omega) _ _ k0)))
theorem mid_alloc {w W : World} {b : Bx} (h : Mid w W b) (O : Obj) : Mid w (W.alloc O) b :=
  ⟨⟨h.1.1.trans ((new_below W O).mono h.1.1.size), by have := h.1.2; simp; omega⟩, blk_alloc O (by have := h.1.2; omega) _ _ h.2.1, blk_alloc O (by have := h.1.2; omega) _ _ h.2.2⟩
theorem mid_drew {w W : World} {b : Bx} (h : Mid w W b) : Mid w W.drew b := ⟨⟨h.1.1.drew, h.1.2⟩, h.2⟩

set_option maxRecDepth 100000 in
set_option maxHeartbeats 800000 in
theorem sJoinAll_any (a : Option Addr) (n cap : Nat) (xs : List Bx) (w : World) (h : RdS bxLay w a n cap xs) :
    Calls Try.prog 128 #[.slice a n cap] w (RetBox (joinAll xs) w) := by
  have hm := h.1.2.2.1
  have hnc := h.1.2.1
  unfold maxLen at hm
  have HR := Lib.hid h
  have HL := Lib.hid h.1.1
  clear h
  by_cases h0 : n = 0
  · subst h0
    have hx : Hid (xs = []) := List.eq_nil_of_length_eq_zero HL.out
    go_enter Try.func128, Try.ntmps128
    go_wp2
    refine bodyPost_ret (v := .agg #[.int .i64 0, .int .i64 0, .int .i64 0, .int .i64 0]) (by simp [results, Try.results128, go_sem]) rfl ⟨by rw [hx.out]; rfl, ?_⟩
    exact (Below.refl _ _).alloc (Nat.le_refl _) _
  · have hd : ((n : Int) == 0) = false := by rw [beq_eq_false_iff_ne]; omega
    obtain ⟨b, off, x, rfl, hlt, hx, c0, c1, c2, c3⟩ := rdBx_at HR.out (i := 0) (by omega)
    simp only [Nat.zero_mul, Nat.add_zero] at c0 c1 c2 c3
    have hX := Lib.hid hx
    have hpos : (0 : Int) < n := by omega
    have hw : b ≠ w.heap.size := by omega
    clear hx
    go_enter Try.func128, Try.ntmps128
    go_wp2
    go_loopw [4] (fun i wr => ∃ k : Nat, 1 ≤ k ∧ k ≤ n ∧ i = .int .i64 k ∧ Mid w wr (joinAll (xs.take k))) (fun i _ => n - (intOf i).toNat)
    case atStart =>
      refine ⟨1, Nat.le_refl _, by omega, rfl, ?_⟩
      rw [joinAll_one xs x hX.out]
      exact mid_start w x _
    case round =>
      obtain ⟨k, hk1, hkn, rfl, hM⟩ := hrel
      obtain ⟨y, hy⟩ : ∃ y, y = joinAll (xs.take k) := ⟨_, rfl⟩
      rw [← hy] at hM
      have HY := Lib.hid hy
      have HM := Lib.hid hM
      obtain ⟨⟨hB, hz⟩, ⟨k0, f0⟩, k1, f1⟩ := hM
      clear hy c0 c1 c2 c3
      by_cases hlt : k < n
      · obtain ⟨b', off', x', e, hlt', hx', d0, d1, d2, d3⟩ := rdBx_at (HR.out.below hB) hlt
        obtain ⟨rfl, rfl⟩ : b' = b ∧ off' = off := by simpa using e.symm
        have hstep := Lib.hid (joinAll_take xs k x' hk1 hx')
        clear e hx'
        have i0 : (0 : Int) ≤ k := by omega
        have i1 : (k : Int) < n := by omega
        go_wp2
        go_region_with ((with_reducible refine (sJoin_any _ _ _ _ _ _ _ _ _).mono ?_); rintro e w1 ⟨rfl, hj⟩; have q1 := below_keep hj (show w.heap.size + 1 < _ by show _ < wr.heap.size; omega) _ _ ⟨k1, f1⟩)
        all_goals
          go_wp2
          go_roundw
          case rel =>
            refine ⟨k + 1, by omega, by omega, by go_num, ?_⟩
            rw [hstep.out, ← HY.out]
            exact mid_step (b' := joinB y x') (mid_drew HM.out) hj
          case measure => simp [intOf]; omega
      · have hy : Hid (y = joinAll xs) := by
          have h1 := HL.out
          have h2 := HY.out
          rw [List.take_of_length_le (by omega)] at h2
          exact h2
        go_wp2
        refine bodyPost_ret (v := .agg #[.int .i64 y.x0, .int .i64 y.y0, .int .i64 y.x1, .int .i64 y.y1]) (by simp [results, Try.results128, go_sem, k0]) rfl ⟨by rw [← hy.out], ?_⟩
        exact (((hB.setCell (p := ⟨w.heap.size, 0, none⟩) (Nat.le_refl _) _).setCell (p := ⟨w.heap.size, 1, none⟩) (Nat.le_refl _) _).setCell (p := ⟨w.heap.size, 2, none⟩) (Nat.le_refl _) _).setCell (p := ⟨w.heap.size, 3, none⟩) (Nat.le_refl _) _

end Go.Proofs.Ytnebhbnogmhbgaa
