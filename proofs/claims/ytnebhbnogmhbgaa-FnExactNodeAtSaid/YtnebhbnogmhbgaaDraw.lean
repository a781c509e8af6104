/- The model's draws: a cursor over the bytes that came in; each draw by a contract that tells only the range of what is drawn. -/
import Derived.Test.YtnebhbnogmhbgaaBase
namespace Go.Proofs.Ytnebhbnogmhbgaa
open Go.RowKit

/-- Block g holds a cursor over the bytes zs, at place i, its hash h. -/
structure CurAt (g : Nat) (zs : List Int) (a : Option Addr) (cap : Nat) (i h : Int) (w : World) : Prop where
  bytes : ∀ z ∈ zs, 0 ≤ z ∧ z ≤ 255
  block : w.heap[g]? = some (.cells #[.slice a zs.length cap, .int .i64 i, .int .i64 h] 108 (0, 0))
  lo : 0 ≤ i
  hi : i ≤ zs.length
  wf : (Lit.int .i64 h).wf = true
  len : zs.length ≤ 1048576
  rd : RdI .u8 w a zs.length cap zs
  under : 0 < zs.length → ∀ x, a = some x → x.block < g
def Cur (g : Nat) (zs : List Int) (w : World) : Prop := ∃ a cap i h, CurAt g zs a cap i h w

theorem CurAt.keptBut {g : Nat} {zs : List Int} {a : Option Addr} {cap : Nat} {i h i' h' : Int} {w w' : World} (c : CurAt g zs a cap i h w) (hg : w.grownBy w' (some g))
    (hb : w'.heap[g]? = some (.cells #[.slice a zs.length cap, .int .i64 i', .int .i64 h'] 108 (0, 0))) (h0 : 0 ≤ i') (h1 : i' ≤ zs.length) (hw : (Lit.int .i64 h').wf = true) : CurAt g zs a cap i' h' w' := by
  refine ⟨c.bytes, hb, h0, h1, hw, c.len, ⟨c.rd.1, fun hn => ?_⟩, c.under⟩
  obtain ⟨b, off, e, hc⟩ := c.rd.2 hn
  refine ⟨b, off, e, fun j hj => ?_⟩
  have hlt2 : b < g := c.under hn _ e
  have hlt := (Array.getElem?_eq_some_iff.1 c.block).1
  rw [World.cell?_of_block (hg.block b (by omega) (fun e => by simp at e; omega))]
  exact hc j hj

theorem cur_kept {g : Nat} {zs : List Int} {w w' : World} {row : Option Nat} (h : Cur g zs w) (hg : w.grownBy w' row) (hr : ∀ k, row = some k → g < k) : Cur g zs w' := by
  obtain ⟨a, cap, i, x, c⟩ := h
  have hlt := (Array.getElem?_eq_some_iff.1 c.block).1
  refine ⟨a, cap, i, x, c.bytes, ?_, c.lo, c.hi, c.wf, c.len, ⟨c.rd.1, fun hn => ?_⟩, c.under⟩
  · rw [hg.block g hlt (fun e => by have := hr g e.symm; omega)]; exact c.block
  · obtain ⟨b, off, e, hc⟩ := c.rd.2 hn
    refine ⟨b, off, e, fun j hj => ?_⟩
    have hlt2 : b < g := c.under hn _ e
    rw [World.cell?_of_block (hg.block b (by omega) (fun e => by have := hr b e.symm; omega))]
    exact hc j hj

theorem grown_setCell {w : World} {row : Option Nat} {w' : World} (h : w.grownBy w' row) (g j : Nat) (u : Value) (hr : row = some g) : w.grownBy (w'.setCell ⟨g, j, none⟩ u) row :=
  grown_trans h ⟨rfl, rfl, rfl, by simp, fun k _ hk => heap_setCell_other w' ⟨g, j, none⟩ k u (fun e => hk (by rw [hr]; simp [e]))⟩
theorem grown_drewN {w w' : World} {row : Option Nat} (h : w.grownBy w' row) (n : Nat) : w.grownBy (w'.drewN n) row := grown_trans h ⟨rfl, rfl, rfl, Nat.le_refl _, fun _ _ _ => rfl⟩

theorem and255 (n : Int) : 0 ≤ bits .and .i64 n 255 ∧ bits .and .i64 n 255 ≤ 255 := by
  have h255 : (BitVec.ofInt 64 255).toNat = 2 ^ 8 - 1 := by decide
  have key : (BitVec.ofInt 64 n &&& BitVec.ofInt 64 255).toNat = (n % ((2 ^ 64 : Nat) : Int)).toNat % 2 ^ 8 := by
    rw [BitVec.toNat_and, BitVec.toNat_ofInt, h255, Nat.and_two_pow_sub_one_eq_mod]
  have e : bits .and .i64 n 255 = n % 256 := by
    show IntKind.i64.wrap ((BitVec.ofInt 64 n &&& BitVec.ofInt 64 255).toNat : Nat) = n % 256
    rw [key, IntKind.wrap_i64]
    omega
  rw [e]; omega

/-- What a draw leaves: a number in a range, the cursor, and all other blocks as they were. -/
def Drawn (g : Nat) (zs : List Int) (lo hi : Int) (w : World) (e : Ending) (w' : World) : Prop :=
  ∃ x : Int, e = .returned (.int .i64 x) ∧ lo ≤ x ∧ x ≤ hi ∧ Cur g zs w' ∧ w.grownBy w' (some g)

theorem wf_wrap64 (n : Int) : (Lit.int .i64 (wrap64 n)).wf = true := by rw [← IntWalk.i64_left]; exact wf_wrap .i64 n

set_option maxRecDepth 100000 in
set_option maxHeartbeats 400000 in
theorem l1Byte_any (g : Nat) (zs : List Int) (w : World) (h : Cur g zs w) :
    Calls Try.prog 92 #[.pointer (some ⟨g, 0, none⟩)] w (Drawn g zs 0 255 w) := by
  obtain ⟨a, cap, i, x, c⟩ := h
  have HC := Lib.hid c
  obtain ⟨hz, hh, h0, h1, hw, hl, hr, hb⟩ := c
  have hlt := (Array.getElem?_eq_some_iff.1 hh).1
  have c0 : w.cell? ⟨g, 0, none⟩ = some (.slice a zs.length cap) := by rw [cell_of_row w g 0 _ _ _ hh]; rfl
  have c1 : w.cell? ⟨g, 1, none⟩ = some (.int .i64 i) := by rw [cell_of_row w g 1 _ _ _ hh]; rfl
  have c2 : w.cell? ⟨g, 2, none⟩ = some (.int .i64 x) := by rw [cell_of_row w g 2 _ _ _ hh]; rfl
  have f1 : w.frozen? ⟨g, 1, none⟩ = false := frozen_of_row w g 1 _ _ hh
  have f2 : w.frozen? ⟨g, 2, none⟩ = false := frozen_of_row w g 2 _ _ hh
  have HH := Lib.hid hh
  have HZ := Lib.hid hz
  have HR := Lib.hid hr
  have HB := Lib.hid hb
  clear hh hz hr hb
  obtain ⟨y, hy⟩ : ∃ y, y = wrap64 (wrap64 (x * 6364136223846793005) + 1442695040888963407) := ⟨_, rfl⟩
  have HY := Lib.hid hy
  clear hy
  by_cases hi : i < zs.length
  · obtain ⟨b, off, rfl, hc⟩ := HR.out.2 (by omega)
    obtain ⟨m, rfl⟩ := Int.eq_ofNat_of_zero_le h0
    have hck := hc m (by omega)
    have hbg : b < g := HB.out (by omega) _ rfl
    have hng : ¬ b = g := by omega
    have hng' : ¬ g = b := by omega
    clear hc
    go_enter Try.func92, Try.ntmps92
    go_wp2
    rw [← HY.out]
    go_quiet (fail)
    go_wp2
    go_quiet (fail)
    go_wp2
    go_quiet (fail)
    go_wp2
    go_ret
    have B := and255
    refine ⟨_, rfl, (B _).1, (B _).2, ⟨_, _, (m : Int) + 1, y, HC.out.keptBut ?_ ?_ (by omega) (by omega) ?_⟩, ?_⟩
    · exact grown_setCell (grown_drewN (grown_setCell (World.grownBy.refl _ _) g 2 _ rfl) _) g 1 _ rfl
    · have e1 := heap_setCell_same w g 2 _ _ (.int .i64 y) HH.out
      exact heap_setCell_same ((w.setCell ⟨g, 2, none⟩ (.int .i64 y)).drewN _) g 1 _ _ (.int .i64 ((m : Int) + 1)) e1
    · rw [HY.out]; exact wf_wrap64 _
    · exact grown_setCell (grown_drewN (grown_setCell (World.grownBy.refl _ _) g 2 _ rfl) _) g 1 _ rfl
  · go_enter Try.func92, Try.ntmps92
    go_wp2
    rw [← HY.out]
    go_quiet (fail)
    go_wp2
    go_quiet (fail)
    go_wp2
    go_ret
    have B := and255
    refine ⟨_, rfl, (B _).1, (B _).2, ⟨_, _, i, y, HC.out.keptBut ?_ ?_ h0 h1 ?_⟩, ?_⟩
    · exact grown_drewN (grown_drewN (grown_setCell (World.grownBy.refl _ _) g 2 _ rfl) _) _
    · exact heap_setCell_same w g 2 _ _ (.int .i64 y) HH.out
    · rw [HY.out]; exact wf_wrap64 _
    · exact grown_drewN (grown_drewN (grown_setCell (World.grownBy.refl _ _) g 2 _ rfl) _) _

set_option maxRecDepth 100000 in
set_option maxHeartbeats 400000 in
/-- l1Below: a number from 0 on and below n; 0 where n is not above 0. -/
theorem l1Below_any (g : Nat) (zs : List Int) (n : Int) (w : World) (h : Cur g zs w) (hn : n ≤ 16000000) :
    Calls Try.prog 61 #[.pointer (some ⟨g, 0, none⟩), .int .i64 n] w (Drawn g zs 0 (if 0 < n then n - 1 else 0) w) := by
  by_cases h0 : n ≤ 0
  · rw [if_neg (by omega)]
    have H := Lib.hid h
    clear h
    go_enter Try.func61, Try.ntmps61
    go_wp2
    go_ret
    exact ⟨0, rfl, by omega, by omega, H.out, World.grownBy.refl _ _⟩
  · rw [if_pos (by omega)]
    by_cases h1 : n ≤ 256
    · have hr : ∀ x : Int, 0 ≤ x → 0 ≤ x % n ∧ x % n ≤ n - 1 := fun x hx => ⟨Int.emod_nonneg _ (by omega), by have := Int.emod_lt_of_pos x (b := n) (by omega); omega⟩
      have HRm := Lib.hid hr
      clear hr
      go_enter Try.func61, Try.ntmps61
      go_wp2_with fail
      refine (l1Byte_any g zs _ h).mono ?_
      rintro e w1 ⟨x, rfl, x0, x1, c1, g1⟩
      go_wp2
      go_ret
      exact ⟨_, rfl, (HRm.out _ x0).1, (HRm.out _ x0).2, c1, g1⟩
    · have hr : ∀ x : Int, 0 ≤ x → 0 ≤ x % n ∧ x % n ≤ n - 1 := fun x hx => ⟨Int.emod_nonneg _ (by omega), by have := Int.emod_lt_of_pos x (b := n) (by omega); omega⟩
      have HRm := Lib.hid hr
      clear hr
      go_enter Try.func61, Try.ntmps61
      go_wp2_with fail
      refine (l1Byte_any g zs _ h).mono ?_
      rintro e w1 ⟨x, rfl, x0, x1, c1, g1⟩
      go_wp2_with fail
      refine (l1Byte_any g zs _ c1).mono ?_
      rintro e w2 ⟨y, rfl, y0, y1, c2, g2⟩
      go_wp2_with fail
      refine (l1Byte_any g zs _ c2).mono ?_
      rintro e w3 ⟨z, rfl, z0, z1, c3, g3⟩
      go_wp2
      go_ret
      exact ⟨_, rfl, (HRm.out _ (by omega)).1, (HRm.out _ (by omega)).2, c3, grown_trans (grown_trans g1 g2) g3⟩

def DrawnB (g : Nat) (zs : List Int) (w : World) (e : Ending) (w' : World) : Prop := ∃ x : Bool, e = .returned (.bool x) ∧ Cur g zs w' ∧ w.grownBy w' (some g)

set_option maxRecDepth 100000 in
set_option maxHeartbeats 400000 in
theorem l1Once_any (g : Nat) (zs : List Int) (n : Int) (w : World) (h : Cur g zs w) (hn : n ≤ 16000000) :
    Calls Try.prog 55 #[.pointer (some ⟨g, 0, none⟩), .int .i64 n] w (DrawnB g zs w) := by
  go_enter Try.func55, Try.ntmps55
  go_wp2_with fail
  refine (l1Below_any g zs n _ h hn).mono ?_
  rintro e w1 ⟨x, rfl, x0, x1, c1, g1⟩
  go_wp2
  go_ret
  exact ⟨_, rfl, c1, g1⟩

/-- What a draw out of a list leaves. -/
def DrawnOf (g : Nat) (zs l : List Int) (w : World) (e : Ending) (w' : World) : Prop := ∃ x : Int, e = .returned (.int .i64 x) ∧ x ∈ l ∧ Cur g zs w' ∧ w.grownBy w' (some g)

set_option maxRecDepth 100000 in
set_option maxHeartbeats 400000 in
theorem l1Int_any (g : Nat) (zs l : List Int) (a : Option Addr) (n cap : Nat) (w : World) (h : Cur g zs w) (hr : RdI .i64 w a n cap l) (hl : 0 < n) (hl2 : n ≤ 1000) (ha : ∀ x, a = some x → x.block ≠ g) :
    Calls Try.prog 90 #[.pointer (some ⟨g, 0, none⟩), .slice a n cap] w (DrawnOf g zs l w) := by
  have hln := hr.1.1
  subst hln
  have hq : (0 : Int) < l.length := by omega
  go_enter Try.func90, Try.ntmps90
  go_wp2_with fail
  refine (l1Below_any g zs l.length _ h (by omega)).mono ?_
  rintro e w1 ⟨x, rfl, x0, x1, c1, g1⟩
  rw [if_pos hq] at x1
  obtain ⟨m, rfl⟩ := Int.eq_ofNat_of_zero_le x0
  obtain ⟨b, off, rfl, hc⟩ := hr.2 hl
  have hcm := hc m (by omega)
  rw [← World.cell?_of_block (a := ⟨b, off + m, none⟩) (g1.block b (World.block_lt_of_cell? w ⟨b, off + m, none⟩ hcm) (fun e => ha _ rfl (by simpa using e)))] at hcm
  have hm : l.getD m 0 ∈ l := by
    have : m < l.length := by omega
    simp [List.getD, this]
  obtain ⟨q, hq'⟩ : ∃ q, q = l.getD m 0 := ⟨_, rfl⟩
  rw [← hq'] at hcm hm
  clear hc hr hq'
  go_wp2
  go_ret
  exact ⟨_, rfl, hm, c1, g1⟩

/-- A pointer to a new cursor over the bytes that came in. -/
def NewCur (zs : List Int) (w : World) (e : Ending) (w' : World) : Prop := ∃ g, e = .returned (.pointer (some ⟨g, 0, none⟩)) ∧ Cur g zs w' ∧ Below w.heap.size w w' ∧ w.heap.size ≤ g

theorem newCur {zs : List Int} {w : World} {a : Option Addr} {cap : Nat} {x : Int} (hr : RdI .u8 w a zs.length cap zs) (hz : ∀ z ∈ zs, 0 ≤ z ∧ z ≤ 255) (hn : zs.length ≤ 1048576) (hx : (Lit.int .i64 x).wf = true) :
    NewCur zs w (.returned (.pointer (some ⟨w.heap.size, 0, none⟩))) (w.alloc (.cells #[.slice a zs.length cap, .int .i64 0, .int .i64 x] 108)) := by
  have hb : Below w.heap.size w (w.alloc (.cells #[.slice a zs.length cap, .int .i64 0, .int .i64 x] 108)) := (Below.refl _ _).alloc (Nat.le_refl _) _
  refine ⟨w.heap.size, rfl, ⟨a, cap, 0, x, hz, heap_alloc_new w _, by omega, by omega, hx, hn, hr.below hb, fun h y hy => ?_⟩, hb, Nat.le_refl _⟩
  obtain ⟨b, off, e, hc⟩ := hr.2 h
  rw [hy] at e
  obtain rfl := Option.some.inj e
  exact World.block_lt_of_cell? w ⟨b, off + 0, none⟩ (hc 0 h)

/-- Writes into block g, a new block, and writes into what is new: all in all, writes into block g. -/
theorem grown_own {a b c d : World} {g : Option Nat} {r r' : Option Nat} (h1 : a.grownBy b g) (h2 : b.grownBy c r) (h3 : c.grownBy d r') (hr' : ∀ j, r' = some j → a.heap.size ≤ j) (hr : ∀ j, r = some j → a.heap.size ≤ j := by intro j hj; cases hj) : a.grownBy d g :=
  ⟨h3.os.trans (h2.os.trans h1.os), h3.tape.trans (h2.tape.trans h1.tape), h3.output.trans (h2.output.trans h1.output), Nat.le_trans h1.size (Nat.le_trans h2.size h3.size), fun i hi hne =>
    (h3.block i (by have := h1.size; have := h2.size; omega) (fun e => by have := hr' i e.symm; omega)).trans ((h2.block i (by have := h1.size; omega) (fun e => by have := hr i e.symm; omega)).trans (h1.block i hi hne))⟩

set_option maxRecDepth 100000 in
set_option maxHeartbeats 400000 in
theorem l1New_any (a : Option Addr) (cap : Nat) (zs : List Int) (w : World) (h : RdI .u8 w a zs.length cap zs) (hz : ∀ z ∈ zs, 0 ≤ z ∧ z ≤ 255) (hn : zs.length ≤ 1048576) :
    Calls Try.prog 53 #[.slice a zs.length cap] w (NewCur zs w) := by
  have HR := Lib.hid h
  have HZ := Lib.hid hz
  clear h hz
  go_enter Try.func53, Try.ntmps53
  go_wp2
  go_loop [3, 4] (fun q i => ∃ (k : Nat) (x : Int), k ≤ zs.length ∧ i = .int .i64 k ∧ q = .int .i64 x ∧ (Lit.int .i64 x).wf = true)
    (fun _ i => zs.length - (intOf i).toNat)
  case atStart => exact ⟨0, _, Nat.zero_le _, rfl, rfl, by simp [Lit.wf, IntKind.min, IntKind.max, IntKind.signed, IntKind.bits]; omega⟩
  case round =>
    obtain ⟨k, x, hk, rfl, rfl, hx⟩ := hrel
    by_cases hlt : k < zs.length
    · have HR0 := HR.out.2 (by omega)
      obtain ⟨b, off, rfl, hc⟩ := HR0
      have hck := hc k hlt
      clear hc
      by_cases h4 : (k : Int) < 4000
      · go_wp2
        go_round
        case rel => exact ⟨k + 1, _, by omega, by go_num, rfl, wf_bits _ _ _ _⟩
        case measure => simp [intOf]; omega
      · go_wp2
        go_ret
        exact newCur HR.out HZ.out hn hx
    · go_wp2
      go_ret
      exact newCur HR.out HZ.out hn hx

theorem own_grown {k : IntKind} {e : TypeId} {w w' : World} {base g : Nat} {v : Value} {zs : List Int} (h : Own k e w base v zs) (hg : w.grownBy w' (some g)) (hb : g < base) : Own k e w' base v zs := by
  refine Own.kept h hg ?_
  cases hv : v.ownBlock with
  | none => exact .inl rfl
  | some j => exact .inr fun e => by have := (h.lt j hv).1; simp at e; omega
theorem below_grown {w w1 w' : World} {g : Nat} (h : Below w.heap.size w w1) (hg : w1.grownBy w' (some g)) (hb : w.heap.size ≤ g) : Below w.heap.size w w' := h.grown hg h.size (fun k hk => by simp at hk; omega)

theorem wf_small (x : Int) (h0 : -1000000 ≤ x) (h1 : x ≤ 1000000) : (Lit.int .i64 x).wf = true := by
  simp [Lit.wf, IntKind.min, IntKind.max, IntKind.signed, IntKind.bits]; omega

theorem cur_lt {g : Nat} {zs : List Int} {w : World} (h : Cur g zs w) : g < w.heap.size := by obtain ⟨_, _, _, _, c⟩ := h; exact (Array.getElem?_eq_some_iff.1 c.block).1
theorem cur_alloc {g : Nat} {zs : List Int} {w : World} (h : Cur g zs w) (o : Obj) : Cur g zs (w.alloc o) := cur_kept h (World.grownBy_alloc w o none) (fun k hk => by cases hk)

/-- What the draw of an integer of whatever size leaves. -/
def DrawnI (g : Nat) (zs : List Int) (w : World) (e : Ending) (w' : World) : Prop := ∃ x : Int, e = .returned (.int .i64 x) ∧ (Lit.int .i64 x).wf = true ∧ Cur g zs w' ∧ w.grownBy w' (some g)

def odds : List Int := [-1, 0, 1, 2, 255, 256, 65535, 2147483647, 2147483648, 4294967295, 4294967296, -2147483648, 9223372036854775807, -9223372036854775808]
theorem odds_wf : ∀ x ∈ odds, (Lit.int .i64 x).wf = true := by decide
def raws : List Int := [-1, 0, 1, 4, 255, 256, 65535, 65536]
theorem raws_wf : ∀ x ∈ raws, (Lit.int .i64 x).wf = true := by decide

theorem drawnI_of {g : Nat} {zs l : List Int} {w : World} {o : Obj} {e : Ending} {w' : World} (hl : ∀ x ∈ l, (Lit.int .i64 x).wf = true) (h : DrawnOf g zs l (w.alloc o) e w') : DrawnI g zs w e w' := by
  obtain ⟨x, he, hx, hc, hw⟩ := h
  refine ⟨x, he, hl x hx, hc, ⟨hw.os, hw.tape, hw.output, by have := hw.size; simp at this; omega, fun i hi hne => ?_⟩⟩
  rw [hw.block i (by simp; omega) hne]
  exact heap_alloc_old w o hi

set_option maxRecDepth 100000 in
set_option maxHeartbeats 400000 in
theorem l1Odd_any (g : Nat) (zs : List Int) (w : World) (h : Cur g zs w) :
    Calls Try.prog 129 #[.pointer (some ⟨g, 0, none⟩)] w (DrawnI g zs w) := by
  have hlt := cur_lt h
  go_enter Try.func129, Try.ntmps129
  go_wp2_with fail
  refine (l1Int_any g zs odds (some ⟨w.heap.size, 0, none⟩) 14 14 _ (cur_alloc h _) (rdI_new w .i64 odds _ _ 14 rfl rfl (by simp [maxLen])) (by omega) (by omega) (fun x hx => by cases hx; simp; omega)).mono ?_
  intro e w1 hd
  obtain ⟨x, rfl, hx, hc, hw⟩ := drawnI_of odds_wf hd
  go_wp2
  go_ret
  exact ⟨_, rfl, hx, hc, hw⟩

set_option maxRecDepth 100000 in
set_option maxHeartbeats 400000 in
theorem l1Raw_any (g : Nat) (zs : List Int) (w : World) (h : Cur g zs w) :
    Calls Try.prog 118 #[.pointer (some ⟨g, 0, none⟩)] w (DrawnI g zs w) := by
  go_enter Try.func118, Try.ntmps118
  go_wp2_with fail
  refine (l1Once_any g zs 2 _ h (by omega)).mono ?_
  rintro e w1 ⟨b, rfl, c1, g1⟩
  have hlt := cur_lt c1
  cases b with
  | true =>
    go_wp2_with fail
    refine (l1Odd_any g zs _ c1).mono ?_
    rintro e w2 ⟨x, rfl, hx, c2, g2⟩
    go_wp2
    go_ret
    exact ⟨_, rfl, hx, c2, grown_trans g1 g2⟩
  | false =>
    go_wp2_with fail
    refine (l1Int_any g zs raws (some ⟨w1.heap.size, 0, none⟩) 8 8 _ (cur_alloc c1 _) (rdI_new w1 .i64 raws _ _ 8 rfl rfl (by simp [maxLen])) (by omega) (by omega) (fun x hx => by cases hx; simp; omega)).mono ?_
    intro e w2 hd
    obtain ⟨x, rfl, hx, c2, g2⟩ := drawnI_of raws_wf hd
    go_wp2
    go_ret
    exact ⟨_, rfl, hx, c2, grown_trans g1 g2⟩
end Go.Proofs.Ytnebhbnogmhbgaa
