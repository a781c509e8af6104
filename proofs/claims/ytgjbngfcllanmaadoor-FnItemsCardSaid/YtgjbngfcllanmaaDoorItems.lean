/- The law FnItems: sorting preserves the items, each once, and puts none before a preceding one. -/
import Derived.Test.YtgjbngfcllanmaaDoorSortMath
import Derived.Test.YtgjbngfcllanmaaDoorSortI
import Derived.Test.YtgjbngfcllanmaaDoorItemTextI
import Derived.Test.YtgjbngfcllanmaaDoorSameItemsI
import Derived.Test.YtgjbngfcllanmaaDoorItemsOkI
import Derived.Test.YtgjbngfcllanmaaDoorItemAtI
import Derived.Test.YtgjbngfcllanmaaDoorDrawAhead
import Derived.Test.YtgjbngfcllanmaaDoorBig
import Derived.Test.YtgjbngfcllanmaaDoorKeep
import Derived.Deep.DrawnRows
namespace Go.Proofs.YtgjbngfcllanmaaDoor
open Go.RowKit
attribute [local go_sem ↓] Go.wp_at_zero Go.wp_at_succ

/-- A list of items in new memory, by what it reads. -/
def NewRd (n : Nat) (xs : List It) (w : World) (e : Ending) (w' : World) : Prop := ∃ a c, e = .returned (.slice a n c) ∧ RdS itLay w' a n c xs ∧ Below w.heap.size w w'
theorem newRd_of {n : Nat} {xs : List It} {w : World} {e : Ending} {w' : World} (hn : xs.length = n) (h : NewItems xs w e w') : NewRd n xs w e w' := by
  obtain ⟨v, rfl, ho, hb⟩ := h
  obtain ⟨a, c, rfl, hr⟩ := ho.rd
  subst hn
  exact ⟨a, c, rfl, hr, hb⟩
theorem sByKey_rd (a : Option Addr) (n cap : Nat) (xs : List It) (w : World) (h : RdS itLay w a n cap xs) (hn : n ≤ 1099511627776) (ys : List It) (hy : sortB ltKey xs = ys) :
    Calls Tryd.prog 16 #[.slice a n cap] w (NewRd ys.length ys w) := (sByKey_any a n cap xs w h hn).mono fun _ _ h' => newRd_of rfl (hy ▸ h')
theorem sById_rd (a : Option Addr) (n cap : Nat) (xs : List It) (w : World) (h : RdS itLay w a n cap xs) (hn : n ≤ 1099511627776) (ys : List It) (hy : sortB ltId xs = ys) :
    Calls Tryd.prog 17 #[.slice a n cap] w (NewRd ys.length ys w) := (sById_any a n cap xs w h hn).mono fun _ _ h' => newRd_of rfl (hy ▸ h')
theorem iByKey_rd (a : Option Addr) (n cap : Nat) (xs : List It) (w : World) (h : RdS itLay w a n cap xs) (hn : n ≤ 1099511627776) (ys : List It) (hy : sortB ltKey xs = ys) :
    Calls Tryd.prog 7 #[.slice a n cap] w (NewRd ys.length ys w) := (iByKey_any a n cap xs w h hn).mono fun _ _ h' => newRd_of rfl (hy ▸ h')
theorem iItemsOk_val (a : Option Addr) (n cap : Nat) (xs : List It) (t : Bool) (w : World) (h : RdS itLay w a n cap xs) (ht : okAll xs xs 0 = t) :
    Calls Tryd.prog 24 #[.slice a n cap] w fun e w' => e = .returned (.bool t) ∧ Below w.heap.size w w' := ht ▸ iItemsOk_any a n cap xs w h
theorem iItemOk_val (x : It) (t : Bool) (w : World) (ht : itOk x.id x.x0 x.y0 x.x1 x.y1 = t) :
    Calls Tryd.prog 18 #[.agg #[.int .i64 x.id, .int .i64 x.x0, .int .i64 x.y0, .int .i64 x.x1, .int .i64 x.y1]] w fun e w' => e = .returned (.bool t) ∧ Below w.heap.size w w' := ht ▸ iItemOk_any x.id x.x0 x.y0 x.x1 x.y1 w
theorem iItemText_val (x : It) (s : ByteArray) (w : World) (hv : Lib.TabIs Tryd.prog w "internal/strconv.uint64pow10" .u64 Lib.pow10Tab) (hs : textV x.id x.x0 x.y0 x.x1 x.y1 = s) :
    Calls Tryd.prog 27 #[.agg #[.int .i64 x.id, .int .i64 x.x0, .int .i64 x.y0, .int .i64 x.x1, .int .i64 x.y1]] w fun e w' => e = .returned (.string s) ∧ Below w.heap.size w w' := hs ▸ iItemText_any x.id x.x0 x.y0 x.x1 x.y1 w hv
theorem text_empty (x : It) (u : Bool) (s : ByteArray) (hu : itOk x.id x.x0 x.y0 x.x1 x.y1 = u) (hs : textV x.id x.x0 x.y0 x.x1 x.y1 = s) : ((!s.toList.isEmpty) == u) = true := by
  subst hu hs
  unfold textV
  cases h : itOk x.id x.x0 x.y0 x.x1 x.y1 with
  | false =>
    rw [if_neg Bool.false_ne_true, Lib.toList_data]
    rfl
  | true =>
    rw [if_pos rfl, Lib.toList_data]
    simp
theorem iSame_yes (a a' : Option Addr) (n n' cap cap' : Nat) (xs : List It) (w : World) (h : RdS itLay w a n cap xs) (h' : RdS itLay w a' n' cap' xs) :
    Calls Tryd.prog 15 #[.slice a n cap, .slice a' n' cap'] w fun e w' => e = .returned (.bool true) ∧ Below w.heap.size w w' := by
  refine (iSameItems_any a a' n n' cap cap' xs xs w h h').mono fun e w' ⟨he, hw⟩ => ⟨?_, hw⟩
  rw [he, (sameV_iff xs xs).2 rfl]

set_option maxHeartbeats 16000000 in
set_option maxRecDepth 100000 in
theorem fnItems_walk (A : Option Addr) (n cap : Nat) (zs : List Int) (w : World) (h : RdI .u8 w A n cap zs) (hz : ∀ z ∈ zs, 0 ≤ z ∧ z ≤ 255) (hv : Lib.TabIs Tryd.prog w "internal/strconv.uint64pow10" .u64 Lib.pow10Tab) :
    Calls Tryd.prog 3 #[.slice A n cap] w fun e w' => e = .returned (.bool true) ∧ Below w.heap.size w w' := by
  have hln := h.1.1
  subst hln
  have HZ := Lib.hid hz
  have HA := Lib.hid h
  have HV := Lib.hid hv
  clear hz hv
  by_cases hn : zs.length ≤ 1048576
  · go_enter Tryd.func3, Tryd.ntmps3
    go_wp2_with fail
    refine (big_no A _ cap _ hn).mono ?_
    rintro e w0 ⟨rfl, rfl⟩
    go_wp2_with fail
    refine (drawByKey_any A cap zs _ (HA.out) HZ.out hn).mono ?_
    rintro e w1 ⟨v1, xs, rfl, hl1, o1, B⟩
    obtain ⟨a1, c1, rfl, R1⟩ := o1.rd
    replace R1 := Lib.hid R1
    clear o1
    obtain ⟨ks, hks⟩ : ∃ ks, sortB ltKey xs = ks := ⟨_, rfl⟩
    have HK := Lib.hid hks
    have hkl : Hid (ks.length = xs.length) := by rw [← hks]; exact sortB_len _ _
    clear hks
    go_wp2_with fail
    refine (iByKey_any a1 _ c1 xs _ R1.out (by omega)).mono ?_
    rintro e w2 ⟨v2, rfl, o2, b2⟩
    rw [HK.out] at o2
    replace R1 := Lib.hid (R1.out.below b2)
    replace B := B.trans (b2.mono B.size)
    have s_b2 := b2.size
    try simp at s_b2
    clear b2
    obtain ⟨a2, c2, rfl, R2⟩ := o2.rd
    replace R2 := Lib.hid R2
    clear o2
    go_wp2_with fail
    refine (drawById_any A cap zs _ (HA.out.below B) HZ.out hn).mono ?_
    rintro e w3 ⟨v3, ms, rfl, hl3, o3, b3⟩
    replace R1 := Lib.hid (R1.out.below b3)
    replace R2 := Lib.hid (R2.out.below b3)
    replace B := B.trans (b3.mono B.size)
    have s_b3 := b3.size
    try simp at s_b3
    clear b3
    obtain ⟨a3, c3, rfl, R3⟩ := o3.rd
    replace R3 := Lib.hid R3
    clear o3
    obtain ⟨ls, hls⟩ : ∃ ls, sortB ltId ms = ls := ⟨_, rfl⟩
    have HI := Lib.hid hls
    have hil : Hid (ls.length = ms.length) := by rw [← hls]; exact sortB_len _ _
    clear hls
    go_wp2_with fail
    refine (iById_any a3 _ c3 ms _ R3.out (by omega)).mono ?_
    rintro e w4 ⟨v4, rfl, o4, b4⟩
    rw [HI.out] at o4
    replace R1 := Lib.hid (R1.out.below b4)
    replace R2 := Lib.hid (R2.out.below b4)
    replace R3 := Lib.hid (R3.out.below b4)
    replace B := B.trans (b4.mono B.size)
    have s_b4 := b4.size
    try simp at s_b4
    clear b4
    obtain ⟨a4, c4, rfl, R4⟩ := o4.rd
    replace R4 := Lib.hid R4
    clear o4
    go_wp2_with fail
    refine (drawItemOk_any A cap zs _ (HA.out.below B) HZ.out hn).mono ?_
    rintro e w5 ⟨x, rfl, b5⟩
    replace R1 := Lib.hid (R1.out.below b5)
    replace R2 := Lib.hid (R2.out.below b5)
    replace R3 := Lib.hid (R3.out.below b5)
    replace R4 := Lib.hid (R4.out.below b5)
    replace B := B.trans (b5.mono B.size)
    have s_b5 := b5.size
    try simp at s_b5
    clear b5
    have K5 := Lib.hid (blk_new w5 #[.int .i64 x.id, .int .i64 x.x0, .int .i64 x.y0, .int .i64 x.x1, .int .i64 x.y1] 30)
    replace R1 := Lib.hid (R1.out.alloc (.cells #[.int .i64 x.id, .int .i64 x.x0, .int .i64 x.y0, .int .i64 x.x1, .int .i64 x.y1] 30))
    replace R2 := Lib.hid (R2.out.alloc (.cells #[.int .i64 x.id, .int .i64 x.x0, .int .i64 x.y0, .int .i64 x.x1, .int .i64 x.y1] 30))
    replace R3 := Lib.hid (R3.out.alloc (.cells #[.int .i64 x.id, .int .i64 x.x0, .int .i64 x.y0, .int .i64 x.x1, .int .i64 x.y1] 30))
    replace R4 := Lib.hid (R4.out.alloc (.cells #[.int .i64 x.id, .int .i64 x.x0, .int .i64 x.y0, .int .i64 x.x1, .int .i64 x.y1] 30))
    replace B := B.alloc B.size (.cells #[.int .i64 x.id, .int .i64 x.x0, .int .i64 x.y0, .int .i64 x.x1, .int .i64 x.y1] 30)
    go_wp2_with fail
    refine (drawAhead_any A cap zs _ (HA.out.below B) HZ.out hn).mono ?_
    rintro e w6 ⟨y, z, rfl, b6⟩
    replace R1 := Lib.hid (R1.out.below b6)
    replace R2 := Lib.hid (R2.out.below b6)
    replace R3 := Lib.hid (R3.out.below b6)
    replace R4 := Lib.hid (R4.out.below b6)
    replace K5 := Lib.hid (below_keep b6 (by first | omega | (simp; done) | (simp; omega)) _ _ K5.out)
    replace B := B.trans (b6.mono B.size)
    have s_b6 := b6.size
    try simp at s_b6
    clear b6
    have K6 := Lib.hid (blk_alloc (.cells #[.int .i64 z.id, .int .i64 z.x0, .int .i64 z.y0, .int .i64 z.x1, .int .i64 z.y1] 30) (by simp) _ _ (blk_new w6 #[.int .i64 y.id, .int .i64 y.x0, .int .i64 y.y0, .int .i64 y.x1, .int .i64 y.y1] 30))
    have K7 := Lib.hid (blk_new1 w6 (.cells #[.int .i64 y.id, .int .i64 y.x0, .int .i64 y.y0, .int .i64 y.x1, .int .i64 y.y1] 30) #[.int .i64 z.id, .int .i64 z.x0, .int .i64 z.y0, .int .i64 z.x1, .int .i64 z.y1] 30)
    replace R1 := Lib.hid (R1.out.alloc (.cells #[.int .i64 y.id, .int .i64 y.x0, .int .i64 y.y0, .int .i64 y.x1, .int .i64 y.y1] 30))
    replace R2 := Lib.hid (R2.out.alloc (.cells #[.int .i64 y.id, .int .i64 y.x0, .int .i64 y.y0, .int .i64 y.x1, .int .i64 y.y1] 30))
    replace R3 := Lib.hid (R3.out.alloc (.cells #[.int .i64 y.id, .int .i64 y.x0, .int .i64 y.y0, .int .i64 y.x1, .int .i64 y.y1] 30))
    replace R4 := Lib.hid (R4.out.alloc (.cells #[.int .i64 y.id, .int .i64 y.x0, .int .i64 y.y0, .int .i64 y.x1, .int .i64 y.y1] 30))
    replace K5 := Lib.hid (blk_alloc (.cells #[.int .i64 y.id, .int .i64 y.x0, .int .i64 y.y0, .int .i64 y.x1, .int .i64 y.y1] 30) (by first | omega | (simp; done) | (simp; omega)) _ _ K5.out)
    replace B := B.alloc B.size (.cells #[.int .i64 y.id, .int .i64 y.x0, .int .i64 y.y0, .int .i64 y.x1, .int .i64 y.y1] 30)
    replace R1 := Lib.hid (R1.out.alloc (.cells #[.int .i64 z.id, .int .i64 z.x0, .int .i64 z.y0, .int .i64 z.x1, .int .i64 z.y1] 30))
    replace R2 := Lib.hid (R2.out.alloc (.cells #[.int .i64 z.id, .int .i64 z.x0, .int .i64 z.y0, .int .i64 z.x1, .int .i64 z.y1] 30))
    replace R3 := Lib.hid (R3.out.alloc (.cells #[.int .i64 z.id, .int .i64 z.x0, .int .i64 z.y0, .int .i64 z.x1, .int .i64 z.y1] 30))
    replace R4 := Lib.hid (R4.out.alloc (.cells #[.int .i64 z.id, .int .i64 z.x0, .int .i64 z.y0, .int .i64 z.x1, .int .i64 z.y1] 30))
    replace K5 := Lib.hid (blk_alloc (.cells #[.int .i64 z.id, .int .i64 z.x0, .int .i64 z.y0, .int .i64 z.x1, .int .i64 z.y1] 30) (by first | omega | (simp; done) | (simp; omega)) _ _ K5.out)
    replace B := B.alloc B.size (.cells #[.int .i64 z.id, .int .i64 z.x0, .int .i64 z.y0, .int .i64 z.x1, .int .i64 z.y1] 30)
    go_wp2_with fail
    refine (drawItemAt_any A cap zs _ (HA.out.below B) HZ.out hn).mono ?_
    rintro e w7 ⟨v7, cs, id, rfl, hl7, o7, b7⟩
    replace R1 := Lib.hid (R1.out.below b7)
    replace R2 := Lib.hid (R2.out.below b7)
    replace R3 := Lib.hid (R3.out.below b7)
    replace R4 := Lib.hid (R4.out.below b7)
    replace K5 := Lib.hid (below_keep b7 (by first | omega | (simp; done) | (simp; omega)) _ _ K5.out)
    replace K6 := Lib.hid (below_keep b7 (by first | omega | (simp; done) | (simp; omega)) _ _ K6.out)
    replace K7 := Lib.hid (below_keep b7 (by first | omega | (simp; done) | (simp; omega)) _ _ K7.out)
    replace B := B.trans (b7.mono B.size)
    have s_b7 := b7.size
    try simp at s_b7
    clear b7
    obtain ⟨a7, c7, rfl, R7⟩ := o7.rd
    replace R7 := Lib.hid R7
    clear o7
    go_wp2_with fail
    refine (drawItemsOk_any A cap zs _ (HA.out.below B) HZ.out hn).mono ?_
    rintro e w8 ⟨v8, ds, rfl, hl8, o8, b8⟩
    replace R1 := Lib.hid (R1.out.below b8)
    replace R2 := Lib.hid (R2.out.below b8)
    replace R3 := Lib.hid (R3.out.below b8)
    replace R4 := Lib.hid (R4.out.below b8)
    replace R7 := Lib.hid (R7.out.below b8)
    replace K5 := Lib.hid (below_keep b8 (by first | omega | (simp; done) | (simp; omega)) _ _ K5.out)
    replace K6 := Lib.hid (below_keep b8 (by first | omega | (simp; done) | (simp; omega)) _ _ K6.out)
    replace K7 := Lib.hid (below_keep b8 (by first | omega | (simp; done) | (simp; omega)) _ _ K7.out)
    replace B := B.trans (b8.mono B.size)
    have s_b8 := b8.size
    try simp at s_b8
    clear b8
    obtain ⟨a8, c8, rfl, R8⟩ := o8.rd
    replace R8 := Lib.hid R8
    clear o8
    go_wp2_with fail
    refine (drawSameItems_any A cap zs _ (HA.out.below B) HZ.out hn).mono ?_
    rintro e w9 ⟨v9, u9, es, fs, rfl, hl9, hm9, o9, p9, b9⟩
    replace R1 := Lib.hid (R1.out.below b9)
    replace R2 := Lib.hid (R2.out.below b9)
    replace R3 := Lib.hid (R3.out.below b9)
    replace R4 := Lib.hid (R4.out.below b9)
    replace R7 := Lib.hid (R7.out.below b9)
    replace R8 := Lib.hid (R8.out.below b9)
    replace K5 := Lib.hid (below_keep b9 (by first | omega | (simp; done) | (simp; omega)) _ _ K5.out)
    replace K6 := Lib.hid (below_keep b9 (by first | omega | (simp; done) | (simp; omega)) _ _ K6.out)
    replace K7 := Lib.hid (below_keep b9 (by first | omega | (simp; done) | (simp; omega)) _ _ K7.out)
    replace B := B.trans (b9.mono B.size)
    have s_b9 := b9.size
    try simp at s_b9
    clear b9
    obtain ⟨a9, c9, rfl, R9⟩ := o9.rd
    replace R9 := Lib.hid R9
    clear o9
    obtain ⟨a10, c10, rfl, R10⟩ := p9.rd
    replace R10 := Lib.hid R10
    clear p9
    go_upto_region 12 with (fail)
    have lK5 : w5.heap.size < w9.heap.size := by omega
    have lK6 : w6.heap.size < w9.heap.size := by omega
    have lK7 : w6.heap.size + 1 < w9.heap.size := by omega
    have KS : ∀ V : World, Below w9.heap.size w9 V → Below w9.heap.size w9 V ∧ V.cell? ⟨w5.heap.size, 0, none⟩ = some (.int .i64 x.id) ∧ V.cell? ⟨w5.heap.size, 1, none⟩ = some (.int .i64 x.x0) ∧ V.cell? ⟨w5.heap.size, 2, none⟩ = some (.int .i64 x.y0) ∧ V.cell? ⟨w5.heap.size, 3, none⟩ = some (.int .i64 x.x1) ∧ V.cell? ⟨w5.heap.size, 4, none⟩ = some (.int .i64 x.y1) ∧ V.cell? ⟨w6.heap.size, 0, none⟩ = some (.int .i64 y.id) ∧ V.cell? ⟨w6.heap.size, 1, none⟩ = some (.int .i64 y.x0) ∧ V.cell? ⟨w6.heap.size, 2, none⟩ = some (.int .i64 y.y0) ∧ V.cell? ⟨w6.heap.size, 3, none⟩ = some (.int .i64 y.x1) ∧ V.cell? ⟨w6.heap.size, 4, none⟩ = some (.int .i64 y.y1) ∧ V.cell? ⟨w6.heap.size + 1, 0, none⟩ = some (.int .i64 z.id) ∧ V.cell? ⟨w6.heap.size + 1, 1, none⟩ = some (.int .i64 z.x0) ∧ V.cell? ⟨w6.heap.size + 1, 2, none⟩ = some (.int .i64 z.y0) ∧ V.cell? ⟨w6.heap.size + 1, 3, none⟩ = some (.int .i64 z.x1) ∧ V.cell? ⟨w6.heap.size + 1, 4, none⟩ = some (.int .i64 z.y1) := fun V b =>
      ⟨b, (b.cell (p := ⟨w5.heap.size, 0, none⟩) lK5).trans (K5.out.1 0), (b.cell (p := ⟨w5.heap.size, 1, none⟩) lK5).trans (K5.out.1 1), (b.cell (p := ⟨w5.heap.size, 2, none⟩) lK5).trans (K5.out.1 2), (b.cell (p := ⟨w5.heap.size, 3, none⟩) lK5).trans (K5.out.1 3), (b.cell (p := ⟨w5.heap.size, 4, none⟩) lK5).trans (K5.out.1 4), (b.cell (p := ⟨w6.heap.size, 0, none⟩) lK6).trans (K6.out.1 0), (b.cell (p := ⟨w6.heap.size, 1, none⟩) lK6).trans (K6.out.1 1), (b.cell (p := ⟨w6.heap.size, 2, none⟩) lK6).trans (K6.out.1 2), (b.cell (p := ⟨w6.heap.size, 3, none⟩) lK6).trans (K6.out.1 3), (b.cell (p := ⟨w6.heap.size, 4, none⟩) lK6).trans (K6.out.1 4), (b.cell (p := ⟨w6.heap.size + 1, 0, none⟩) lK7).trans (K7.out.1 0), (b.cell (p := ⟨w6.heap.size + 1, 1, none⟩) lK7).trans (K7.out.1 1), (b.cell (p := ⟨w6.heap.size + 1, 2, none⟩) lK7).trans (K7.out.1 2), (b.cell (p := ⟨w6.heap.size + 1, 3, none⟩) lK7).trans (K7.out.1 3), (b.cell (p := ⟨w6.heap.size + 1, 4, none⟩) lK7).trans (K7.out.1 4)⟩
    have KT : ∀ V V' : World, Below w9.heap.size w9 V → Below V.heap.size V V' → Below w9.heap.size w9 V' := fun V V' b b' => b.trans (b'.mono b.size)
    have hm1 : xs.length ≤ 1099511627776 := by omega
    have hm3 : ms.length ≤ 1099511627776 := by omega
    clear hl7 hl8 hl9 hm9
    have HV9 := Lib.hid (var_kept HV.out B)
    have HT : ∀ V, Below w9.heap.size w9 V → Lib.TabIs Tryd.prog V "internal/strconv.uint64pow10" .u64 Lib.pow10Tab := fun V b => var_kept HV9.out b
    clear HA HZ h
    go_cut [105] (fun s105 V => s105 = .bool false ∧ Below w9.heap.size w9 V)
    case first =>
      go_region_held3 (fun V => Below w9.heap.size w9 V ∧ V.cell? ⟨w5.heap.size, 0, none⟩ = some (.int .i64 x.id) ∧ V.cell? ⟨w5.heap.size, 1, none⟩ = some (.int .i64 x.x0) ∧ V.cell? ⟨w5.heap.size, 2, none⟩ = some (.int .i64 x.y0) ∧ V.cell? ⟨w5.heap.size, 3, none⟩ = some (.int .i64 x.x1) ∧ V.cell? ⟨w5.heap.size, 4, none⟩ = some (.int .i64 x.y1) ∧ V.cell? ⟨w6.heap.size, 0, none⟩ = some (.int .i64 y.id) ∧ V.cell? ⟨w6.heap.size, 1, none⟩ = some (.int .i64 y.x0) ∧ V.cell? ⟨w6.heap.size, 2, none⟩ = some (.int .i64 y.y0) ∧ V.cell? ⟨w6.heap.size, 3, none⟩ = some (.int .i64 y.x1) ∧ V.cell? ⟨w6.heap.size, 4, none⟩ = some (.int .i64 y.y1) ∧ V.cell? ⟨w6.heap.size + 1, 0, none⟩ = some (.int .i64 z.id) ∧ V.cell? ⟨w6.heap.size + 1, 1, none⟩ = some (.int .i64 z.x0) ∧ V.cell? ⟨w6.heap.size + 1, 2, none⟩ = some (.int .i64 z.y0) ∧ V.cell? ⟨w6.heap.size + 1, 3, none⟩ = some (.int .i64 z.x1) ∧ V.cell? ⟨w6.heap.size + 1, 4, none⟩ = some (.int .i64 z.y1))
        (first | exact KS _ (drew_below _) | exact KS _ (KT _ _ (And.left (by assumption)) hb))
        (first
        | (go_at_call 16; (with_reducible refine (sByKey_rd a1 _ c1 xs _ (R1.out.below (by first | exact drew_below _ | exact And.left (by assumption))) hm1 ks HK.out).mono ?_); rintro e w10 ⟨av, cv, rfl, hrv, hb⟩)
        | (go_at_call 17; (with_reducible refine (sById_rd a3 _ c3 ms _ (R3.out.below (by first | exact drew_below _ | exact And.left (by assumption))) hm3 ls HI.out).mono ?_); rintro e w10 ⟨av, cv, rfl, hrv, hb⟩)
        | (go_at_call 15; (with_reducible refine (iSame_yes a2 _ _ _ c2 _ _ _ (R2.out.below (by first | exact drew_below _ | exact And.left (by assumption))) (by assumption)).mono ?_); rintro e w10 ⟨rfl, hb⟩)
        | (go_at_call 15; (with_reducible refine (iSame_yes a4 _ _ _ c4 _ _ _ (R4.out.below (by first | exact drew_below _ | exact And.left (by assumption))) (by assumption)).mono ?_); rintro e w10 ⟨rfl, hb⟩)
        | (go_at_call 18; (with_reducible refine (iItemOk_any x.id x.x0 x.y0 x.x1 x.y1 _).mono ?_); rintro e w10 ⟨rfl, hb⟩)
        | (go_at_call 19; (with_reducible refine (sItemOk_any x.id x.x0 x.y0 x.x1 x.y1 _).mono ?_); rintro e w10 ⟨rfl, hb⟩)
        | (go_at_call 20; (with_reducible refine (iAhead_any y.id y.x0 y.y0 y.x1 y.y1 z.id z.x0 z.y0 z.x1 z.y1 _).mono ?_); rintro e w10 ⟨rfl, hb⟩)
        | (go_at_call 21; (with_reducible refine (sAhead_any y.id y.x0 y.y0 y.x1 y.y1 z.id z.x0 z.y0 z.x1 z.y1 _).mono ?_); rintro e w10 ⟨rfl, hb⟩)
        | (go_at_call 22; (with_reducible refine (iItemAt_any a7 _ c7 cs id _ (R7.out.below (by first | exact drew_below _ | exact And.left (by assumption)))).mono ?_); rintro e w10 ⟨rfl, hb⟩)
        | (go_at_call 23; (with_reducible refine (sItemAt_any a7 _ c7 cs id _ (R7.out.below (by first | exact drew_below _ | exact And.left (by assumption)))).mono ?_); rintro e w10 ⟨rfl, hb⟩)
        | (go_at_call 24; (with_reducible refine (iItemsOk_any a8 _ c8 ds _ (R8.out.below (by first | exact drew_below _ | exact And.left (by assumption)))).mono ?_); rintro e w10 ⟨rfl, hb⟩)
        | (go_at_call 25; (with_reducible refine (sItemsOk_any a8 _ c8 ds _ (R8.out.below (by first | exact drew_below _ | exact And.left (by assumption)))).mono ?_); rintro e w10 ⟨rfl, hb⟩)
        | (go_at_call 15; (with_reducible refine (iSameItems_any a9 a10 _ _ c9 c10 es fs _ (R9.out.below (by first | exact drew_below _ | exact And.left (by assumption))) (R10.out.below (by first | exact drew_below _ | exact And.left (by assumption)))).mono ?_); rintro e w10 ⟨rfl, hb⟩)
        | (go_at_call 26; (with_reducible refine (sSameItems_any a9 a10 _ _ c9 c10 es fs _ (R9.out.below (by first | exact drew_below _ | exact And.left (by assumption))) (R10.out.below (by first | exact drew_below _ | exact And.left (by assumption)))).mono ?_); rintro e w10 ⟨rfl, hb⟩)
        | (go_at_call 27; (with_reducible refine (iItemText_any x.id x.x0 x.y0 x.x1 x.y1 _ (HT _ (by first | exact drew_below _ | exact And.left (by assumption)))).mono ?_); rintro e w10 ⟨rfl, hb⟩)
        | (go_at_call 28; (with_reducible refine (sItemText_any x.id x.x0 x.y0 x.x1 x.y1 _).mono ?_); rintro e w10 ⟨rfl, hb⟩))
      rename_i hS
      go_wp2_with fail
      go_meet
      exact ⟨rfl, hS.1⟩
    case rest =>
      obtain ⟨rfl, B10⟩ := hcut
      have R2c := Lib.hid (R2.out.below B10)
      have R4c := Lib.hid (R4.out.below B10)
      have SK : Hid (Sorted ltKey ks) := HK.out ▸ sortB_sorted strict_key xs
      have SI : Hid (Sorted ltId ls) := HI.out ▸ sortB_sorted strict_id ms
      have hk10 : ks.length ≤ 10 := by rw [hkl.out]; omega
      have hi10 : ls.length ≤ 10 := by rw [hil.out]; omega
      go_wp2_with fail
      go_loopw [15] (fun i wr => ∃ j : Nat, i = .int .i64 ((j + 1 : Nat) : Int) ∧ Below wc.heap.size wc wr) (fun i _ => ks.length - (intOf i).toNat)
      case atStart => exact ⟨0, rfl, Below.refl _ _⟩
      case round =>
        obtain ⟨j, rfl, hB⟩ := hrel
        by_cases hj : j + 1 < ks.length
        · obtain ⟨b, off, p, e2, -, hp, d0, d1, d2, d3, d4⟩ := rdIt_at (R2c.out.below hB) hj
          obtain ⟨b', off', q, e2', -, hq, q0, q1, q2, q3, q4⟩ := rdIt_at (R2c.out.below hB) (i := j) (by omega)
          obtain ⟨rfl, rfl⟩ : b = b' ∧ off = off' := by rw [e2] at e2'; simpa using e2'
          clear e2'
          subst e2
          have y0 : (0 : Int) ≤ j := by omega
          have y1 : (j : Int) < ks.length := by omega
          have y2 : (0 : Int) ≤ (j : Int) + 1 := by omega
          have y3 : (j : Int) + 1 < ks.length := by omega
          have C := iAhead_any p.id p.x0 p.y0 p.x1 p.y1 q.id q.x0 q.y0 q.x1 q.y1
          have hK : aheadV (keyV p.x0 p.y0 p.x1 p.y1) p.id (keyV q.x0 q.y0 q.x1 q.y1) q.id = false := sorted_next (lt := ltKey) SK.out hq hp
          rw [hK] at C
          replace C := Lib.hid C
          clear hK hp hq
          go_wp2_with fail
          have g0 := cellq d0
          have g1 := cellq d1
          have g2 := cellq d2
          have g3 := cellq d3
          have g4 := cellq d4
          have h0 := cellq q0
          have h1 := cellq q1
          have h2 := cellq q2
          have h3 := cellq q3
          have h4 := cellq q4
          refine wp_region_quiet_below (by kernel_rfl) (by kernel_rfl) ?_
          repeat (go_big_quiet_step (first | (go_at_call 20; with_reducible exact callr (C.out _))))
          refine wpQuiet_nil (quiet_end fun W hW => ?_)
          clear g0 h0 g1 h1 g2 h2 g3 h3 g4 h4
          go_wp2
          go_roundw
          case rel => exact ⟨j + 1, by go_num, hB.trans (hW.mono hB.size)⟩
          case measure => simp [intOf]; omega
        · replace R4c := Lib.hid (R4c.out.below hB)
          have B11 := B10.trans (hB.mono B10.size)
          have hx : ¬ (j : Int) + 1 < ks.length := by omega
          clear hB hj
          go_wp2_with fail
          clear hx
          go_loopw [16] (fun i V => ∃ j : Nat, i = .int .i64 ((j + 1 : Nat) : Int) ∧ Below wr.heap.size wr V) (fun i _ => ls.length - (intOf i).toNat)
          case atStart => exact ⟨0, rfl, Below.refl _ _⟩
          case round =>
            obtain ⟨j, rfl, hB⟩ := hrel
            by_cases hj : j + 1 < ls.length
            · obtain ⟨b, off, p, e2, -, hp, d0, d1, d2, d3, d4⟩ := rdIt_at (R4c.out.below hB) hj
              obtain ⟨b', off', q, e2', -, hq, q0, q1, q2, q3, q4⟩ := rdIt_at (R4c.out.below hB) (i := j) (by omega)
              obtain ⟨rfl, rfl⟩ : b = b' ∧ off = off' := by rw [e2] at e2'; simpa using e2'
              clear e2'
              subst e2
              have y0 : (0 : Int) ≤ j := by omega
              have y1 : (j : Int) < ls.length := by omega
              have y2 : (0 : Int) ≤ (j : Int) + 1 := by omega
              have y3 : (j : Int) + 1 < ls.length := by omega
              have hlt : ¬ p.id < q.id := of_decide_eq_false (sorted_next (lt := ltId) SI.out hq hp)
              clear hp hq
              go_wp2_with fail
              go_quiet (fail)
              go_wp2
              go_roundw
              case rel => exact ⟨j + 1, by go_num, hB.trans ((drewN_below _ _).mono hB.size)⟩
              case measure => simp [intOf]; omega
            · have B12 := B11.trans (hB.mono B11.size)
              have hx : ¬ (j : Int) + 1 < ls.length := by omega
              clear hB hj R2c R4c
              have hkk : sortB ltKey ks = ks := sortB_again ks SK.out
              have HKK := Lib.hid hkk
              clear hkk
              obtain ⟨t, ht⟩ : ∃ t, okAll xs xs 0 = t := ⟨_, rfl⟩
              have ht2 : okAll ks ks 0 = t := by rw [← ht]; exact okAll_perm (HK.out ▸ sortB_perm ltKey xs)
              have HT1 := Lib.hid ht
              have HT2 := Lib.hid ht2
              clear ht ht2
              obtain ⟨u, hu⟩ : ∃ u, itOk x.id x.x0 x.y0 x.x1 x.y1 = u := ⟨_, rfl⟩
              obtain ⟨tx, htx⟩ : ∃ s, textV x.id x.x0 x.y0 x.x1 x.y1 = s := ⟨_, rfl⟩
              have HU := Lib.hid hu
              have HX := Lib.hid htx
              have HE := Lib.hid (text_empty x u tx hu htx)
              clear hu htx
              have hkm : ks.length ≤ 1099511627776 := by rw [hkl.out]; omega
              have hlen : ((ks.length : Int) == xs.length) = true := by rw [hkl.out]; simp
              cases hp1 : aheadV (keyV y.x0 y.y0 y.x1 y.y1) y.id (keyV z.x0 z.y0 z.x1 z.y1) z.id with
              | true =>
                have C1 := iAhead_any y.id y.x0 y.y0 y.x1 y.y1 z.id z.x0 z.y0 z.x1 z.y1
                have C2 := iAhead_any z.id z.x0 z.y0 z.x1 z.y1 y.id y.x0 y.y0 y.x1 y.y1
                rw [hp1] at C1
                rw [aheadV_asym _ _ _ _ hp1] at C2
                replace C1 := Lib.hid C1
                replace C2 := Lib.hid C2
                clear hp1
                go_wp2_with fail
                go_region_held3 (fun V => Below w9.heap.size w9 V ∧ V.cell? ⟨w5.heap.size, 0, none⟩ = some (.int .i64 x.id) ∧ V.cell? ⟨w5.heap.size, 1, none⟩ = some (.int .i64 x.x0) ∧ V.cell? ⟨w5.heap.size, 2, none⟩ = some (.int .i64 x.y0) ∧ V.cell? ⟨w5.heap.size, 3, none⟩ = some (.int .i64 x.x1) ∧ V.cell? ⟨w5.heap.size, 4, none⟩ = some (.int .i64 x.y1) ∧ V.cell? ⟨w6.heap.size, 0, none⟩ = some (.int .i64 y.id) ∧ V.cell? ⟨w6.heap.size, 1, none⟩ = some (.int .i64 y.x0) ∧ V.cell? ⟨w6.heap.size, 2, none⟩ = some (.int .i64 y.y0) ∧ V.cell? ⟨w6.heap.size, 3, none⟩ = some (.int .i64 y.x1) ∧ V.cell? ⟨w6.heap.size, 4, none⟩ = some (.int .i64 y.y1) ∧ V.cell? ⟨w6.heap.size + 1, 0, none⟩ = some (.int .i64 z.id) ∧ V.cell? ⟨w6.heap.size + 1, 1, none⟩ = some (.int .i64 z.x0) ∧ V.cell? ⟨w6.heap.size + 1, 2, none⟩ = some (.int .i64 z.y0) ∧ V.cell? ⟨w6.heap.size + 1, 3, none⟩ = some (.int .i64 z.x1) ∧ V.cell? ⟨w6.heap.size + 1, 4, none⟩ = some (.int .i64 z.y1))
                  (first | exact KS _ (Below.drew B12) | exact KS _ (KT _ _ (And.left (by assumption)) hb))
                  (first
                | (go_at_call 7; (with_reducible refine (iByKey_rd a2 _ c2 ks _ (R2.out.below (by first | exact Below.drew B12 | exact And.left (by assumption))) hkm ks HKK.out).mono ?_); rintro e w11 ⟨av, cv, rfl, hrv, hb⟩)
                | (go_at_call 15; (with_reducible refine (iSame_yes _ a2 _ _ _ c2 _ _ (by assumption) (R2.out.below (by first | exact Below.drew B12 | exact And.left (by assumption)))).mono ?_); rintro e w11 ⟨rfl, hb⟩)
                | (go_at_call 24; (with_reducible refine (iItemsOk_val a2 _ c2 ks t _ (R2.out.below (by first | exact Below.drew B12 | exact And.left (by assumption))) HT2.out).mono ?_); rintro e w11 ⟨rfl, hb⟩)
                | (go_at_call 24; (with_reducible refine (iItemsOk_val a1 _ c1 xs t _ (R1.out.below (by first | exact Below.drew B12 | exact And.left (by assumption))) HT1.out).mono ?_); rintro e w11 ⟨rfl, hb⟩)
                | (go_at_call 20; (with_reducible refine (C1.out _).mono ?_); rintro e w11 ⟨rfl, hb⟩)
                | (go_at_call 20; (with_reducible refine (C2.out _).mono ?_); rintro e w11 ⟨rfl, hb⟩)
                | (go_at_call 27; (with_reducible refine (iItemText_val x tx _ (HT _ (by first | exact Below.drew B12 | exact And.left (by assumption))) HX.out).mono ?_); rintro e w11 ⟨rfl, hb⟩)
                | (go_at_call 18; (with_reducible refine (iItemOk_val x u _ HU.out).mono ?_); rintro e w11 ⟨rfl, hb⟩))
                rename_i hS
                have B13 := hS.1
                clear hS
                go_wp2
                go_ret
                exact ⟨ret_bool HE.out, B.trans (B13.mono B.size)⟩
              | false =>
                have C1 := iAhead_any y.id y.x0 y.y0 y.x1 y.y1 z.id z.x0 z.y0 z.x1 z.y1
                have C2 := iAhead_any z.id z.x0 z.y0 z.x1 z.y1 y.id y.x0 y.y0 y.x1 y.y1
                rw [hp1] at C1
                replace C1 := Lib.hid C1
                replace C2 := Lib.hid C2
                clear hp1
                go_wp2_with fail
                refine wp_region_noPanic ?_
                refine wp_region_held_drew (S := fun V => Below w9.heap.size w9 V ∧ V.cell? ⟨w5.heap.size, 0, none⟩ = some (.int .i64 x.id) ∧ V.cell? ⟨w5.heap.size, 1, none⟩ = some (.int .i64 x.x0) ∧ V.cell? ⟨w5.heap.size, 2, none⟩ = some (.int .i64 x.y0) ∧ V.cell? ⟨w5.heap.size, 3, none⟩ = some (.int .i64 x.x1) ∧ V.cell? ⟨w5.heap.size, 4, none⟩ = some (.int .i64 x.y1) ∧ V.cell? ⟨w6.heap.size, 0, none⟩ = some (.int .i64 y.id) ∧ V.cell? ⟨w6.heap.size, 1, none⟩ = some (.int .i64 y.x0) ∧ V.cell? ⟨w6.heap.size, 2, none⟩ = some (.int .i64 y.y0) ∧ V.cell? ⟨w6.heap.size, 3, none⟩ = some (.int .i64 y.x1) ∧ V.cell? ⟨w6.heap.size, 4, none⟩ = some (.int .i64 y.y1) ∧ V.cell? ⟨w6.heap.size + 1, 0, none⟩ = some (.int .i64 z.id) ∧ V.cell? ⟨w6.heap.size + 1, 1, none⟩ = some (.int .i64 z.x0) ∧ V.cell? ⟨w6.heap.size + 1, 2, none⟩ = some (.int .i64 z.y0) ∧ V.cell? ⟨w6.heap.size + 1, 3, none⟩ = some (.int .i64 z.x1) ∧ V.cell? ⟨w6.heap.size + 1, 4, none⟩ = some (.int .i64 z.y1)) (by kernel_rfl) (KS _ (Below.drew B12)) (fun hHeld => ?_)
                refine wpAnyH_take (i := 0) (v := ?v0) rfl (by kernel_rfl) (by kernel_rfl) (by kernel_rfl) (fun _ _ _ h => h) (Or.inl ⟨by rfl, ?hy0⟩) (by assumption) ?rest0
                case hy0 => intro w hSw; (try dsimp only at hSw); go_simp; (try with_reducible rfl)
                simp only [List.getElem_toArray, List.getElem_cons_zero, Act.put, List.setIfInBounds_toArray, List.set_cons_zero, List.set_cons_succ]
                refine wpAnyH_take (i := 1) (v := ?v1) rfl (by kernel_rfl) (by kernel_rfl) (by kernel_rfl) (fun _ _ _ h => h) (Or.inl ⟨by rfl, ?hy1⟩) (by assumption) ?rest1
                case hy1 => intro w hSw; (try dsimp only at hSw); go_simp; (try with_reducible rfl)
                simp only [List.getElem_toArray, List.getElem_cons_zero, List.getElem_cons_succ, Act.put, List.setIfInBounds_toArray, List.set_cons_zero, List.set_cons_succ]
                refine wpAnyH_take (i := 2) (v := ?v2) rfl (by kernel_rfl) (by kernel_rfl) (by kernel_rfl) (fun _ _ _ h => h) (Or.inl ⟨by rfl, ?hy2⟩) (by assumption) ?rest2
                case hy2 => intro w hSw; (try dsimp only at hSw); go_simp; (try with_reducible rfl)
                simp only [List.getElem_toArray, List.getElem_cons_zero, List.getElem_cons_succ, Act.put, List.setIfInBounds_toArray, List.set_cons_zero, List.set_cons_succ]
                refine wpAnyH_take (i := 3) (v := ?v3) rfl (by kernel_rfl) (by kernel_rfl) (by kernel_rfl) (fun _ _ _ h => h) (Or.inl ⟨by rfl, ?hy3⟩) (by assumption) ?rest3
                case hy3 => intro w hSw; (try dsimp only at hSw); go_simp; (try with_reducible rfl)
                simp only [List.getElem_toArray, List.getElem_cons_zero, List.getElem_cons_succ, Act.put, List.setIfInBounds_toArray, List.set_cons_zero, List.set_cons_succ]
                refine wpAnyH_take (i := 4) (v := ?v4) rfl (by kernel_rfl) (by kernel_rfl) (by kernel_rfl) (fun _ _ _ h => h) (Or.inl ⟨by rfl, ?hy4⟩) (by assumption) ?rest4
                case hy4 => intro w hSw; (try dsimp only at hSw); go_simp; (try with_reducible rfl)
                simp only [List.getElem_toArray, List.getElem_cons_zero, List.getElem_cons_succ, Act.put, List.setIfInBounds_toArray, List.set_cons_zero, List.set_cons_succ]
                refine wpAnyH_take (i := 5) (v := ?v5) rfl (by kernel_rfl) (by kernel_rfl) (by kernel_rfl) (fun _ _ _ h => h) (Or.inl ⟨by rfl, ?hy5⟩) (by assumption) ?rest5
                case hy5 => intro w hSw; (try dsimp only at hSw); go_simp; (try with_reducible rfl)
                simp only [List.getElem_toArray, List.getElem_cons_zero, List.getElem_cons_succ, Act.put, List.setIfInBounds_toArray, List.set_cons_zero, List.set_cons_succ]
                refine wpAnyH_take (i := 6) (v := ?v6) rfl (by kernel_rfl) (by kernel_rfl) (by kernel_rfl) (fun _ _ _ h => h) (Or.inl ⟨by rfl, ?hy6⟩) (by assumption) ?rest6
                case hy6 => intro w hSw; (try dsimp only at hSw); go_simp; (try with_reducible rfl)
                simp only [List.getElem_toArray, List.getElem_cons_zero, List.getElem_cons_succ, Act.put, List.setIfInBounds_toArray, List.set_cons_zero, List.set_cons_succ]
                refine wpAnyH_take (i := 8) (v := ?v8) rfl (by kernel_rfl) (by kernel_rfl) (by kernel_rfl) (fun _ _ _ h => h) (Or.inl ⟨by rfl, ?hy8⟩) (by assumption) ?rest8
                case hy8 => intro w hSw; (try dsimp only at hSw); go_simp; (try with_reducible rfl)
                simp only [List.getElem_toArray, List.getElem_cons_zero, List.getElem_cons_succ, Act.put, List.setIfInBounds_toArray, List.set_cons_zero, List.set_cons_succ]
                refine wpAnyH_ready (rs := [7]) (by kernel_rfl) (by simp) ?_
                refine AllReadyH.cons rfl (fun K hK => ?_) AllReadyH.nil
                go_simp
                (go_at_call 7; (with_reducible refine (iByKey_rd a2 _ c2 ks _ (R2.out.below (by first | exact Below.drew B12 | exact And.left (by assumption))) hkm ks HKK.out).mono ?_); rintro e w11 ⟨av, cv, rfl, hrv, hb⟩)
                refine hK.out _ _ (KS _ (KT _ _ (And.left (by assumption)) hb)) (fun hHeld => ?_)
                clear hK K
                refine wpAnyH_ready (rs := [9]) (by kernel_rfl) (by simp) ?_
                refine AllReadyH.cons rfl (fun K hK => ?_) AllReadyH.nil
                go_simp
                (go_at_call 15; (with_reducible refine (iSame_yes _ a2 _ _ _ c2 _ _ (by assumption) (R2.out.below (by first | exact Below.drew B12 | exact And.left (by assumption)))).mono ?_); rintro e w11 ⟨rfl, hb⟩)
                refine hK.out _ _ (KS _ (KT _ _ (And.left (by assumption)) hb)) (fun hHeld => ?_)
                clear hK K
                refine wpAnyH_take (i := 10) (v := ?v10) rfl (by kernel_rfl) (by kernel_rfl) (by kernel_rfl) (fun _ _ _ h => h) (Or.inl ⟨by rfl, ?hy10⟩) (by assumption) ?rest10
                case hy10 => intro w hSw; (try dsimp only at hSw); go_simp; (try with_reducible rfl)
                simp only [List.getElem_toArray, List.getElem_cons_zero, List.getElem_cons_succ, Act.put, List.setIfInBounds_toArray, List.set_cons_zero, List.set_cons_succ]
                refine wpAnyH_take (i := 11) (v := ?v11) rfl (by kernel_rfl) (by kernel_rfl) (by kernel_rfl) (fun _ _ _ h => h) (Or.inl ⟨by rfl, ?hy11⟩) (by assumption) ?rest11
                case hy11 => intro w hSw; (try dsimp only at hSw); go_simp; (try with_reducible rfl)
                simp only [List.getElem_toArray, List.getElem_cons_zero, List.getElem_cons_succ, Act.put, List.setIfInBounds_toArray, List.set_cons_zero, List.set_cons_succ]
                refine wpAnyH_take (i := 12) (v := ?v12) rfl (by kernel_rfl) (by kernel_rfl) (by kernel_rfl) (fun _ _ _ h => h) (Or.inl ⟨by rfl, ?hy12⟩) (by assumption) ?rest12
                case hy12 => intro w hSw; (try dsimp only at hSw); go_simp; (try with_reducible rfl)
                simp only [List.getElem_toArray, List.getElem_cons_zero, List.getElem_cons_succ, Act.put, List.setIfInBounds_toArray, List.set_cons_zero, List.set_cons_succ]
                refine wpAnyH_take (i := 14) (v := ?v14) rfl (by kernel_rfl) (by kernel_rfl) (by kernel_rfl) (fun _ _ _ h => h) (Or.inl ⟨by rfl, ?hy14⟩) (by assumption) ?rest14
                case hy14 => intro w hSw; (try dsimp only at hSw); go_simp; (try with_reducible rfl)
                simp only [List.getElem_toArray, List.getElem_cons_zero, List.getElem_cons_succ, Act.put, List.setIfInBounds_toArray, List.set_cons_zero, List.set_cons_succ]
                refine wpAnyH_ready (rs := [13]) (by kernel_rfl) (by simp) ?_
                refine AllReadyH.cons rfl (fun K hK => ?_) AllReadyH.nil
                go_simp
                (go_at_call 24; (with_reducible refine (iItemsOk_val a2 _ c2 ks t _ (R2.out.below (by first | exact Below.drew B12 | exact And.left (by assumption))) HT2.out).mono ?_); rintro e w11 ⟨rfl, hb⟩)
                refine hK.out _ _ (KS _ (KT _ _ (And.left (by assumption)) hb)) (fun hHeld => ?_)
                clear hK K
                refine wpAnyH_ready (rs := [15]) (by kernel_rfl) (by simp) ?_
                refine AllReadyH.cons rfl (fun K hK => ?_) AllReadyH.nil
                go_simp
                (go_at_call 24; (with_reducible refine (iItemsOk_val a1 _ c1 xs t _ (R1.out.below (by first | exact Below.drew B12 | exact And.left (by assumption))) HT1.out).mono ?_); rintro e w11 ⟨rfl, hb⟩)
                refine hK.out _ _ (KS _ (KT _ _ (And.left (by assumption)) hb)) (fun hHeld => ?_)
                clear hK K
                refine wpAnyH_take (i := 16) (v := ?v16) rfl (by kernel_rfl) (by kernel_rfl) (by kernel_rfl) (fun _ _ _ h => h) (Or.inl ⟨by rfl, ?hy16⟩) (by assumption) ?rest16
                case hy16 => intro w hSw; (try dsimp only at hSw); go_simp; (try with_reducible rfl)
                simp only [List.getElem_toArray, List.getElem_cons_zero, List.getElem_cons_succ, Act.put, List.setIfInBounds_toArray, List.set_cons_zero, List.set_cons_succ]
                refine wpAnyH_take (i := 17) (v := ?v17) rfl (by kernel_rfl) (by kernel_rfl) (by kernel_rfl) (fun _ _ _ h => h) (Or.inl ⟨by rfl, ?hy17⟩) (by assumption) ?rest17
                case hy17 => intro w hSw; (try dsimp only at hSw); go_simp; (try with_reducible rfl)
                simp only [List.getElem_toArray, List.getElem_cons_zero, List.getElem_cons_succ, Act.put, List.setIfInBounds_toArray, List.set_cons_zero, List.set_cons_succ]
                refine wpAnyH_take (i := 18) (v := ?v18) rfl (by kernel_rfl) (by kernel_rfl) (by kernel_rfl) (fun _ _ _ h => h) (Or.inl ⟨by rfl, ?hy18⟩) (by assumption) ?rest18
                case hy18 => intro w hSw; (try dsimp only at hSw); go_simp; (try with_reducible rfl)
                simp only [List.getElem_toArray, List.getElem_cons_zero, List.getElem_cons_succ, Act.put, List.setIfInBounds_toArray, List.set_cons_zero, List.set_cons_succ]
                refine wpAnyH_take (i := 19) (v := ?v19) rfl (by kernel_rfl) (by kernel_rfl) (by kernel_rfl) (fun _ _ _ h => h) (Or.inl ⟨by rfl, ?hy19⟩) (by assumption) ?rest19
                case hy19 => intro w hSw; (try dsimp only at hSw); go_simp; (try with_reducible rfl)
                simp only [List.getElem_toArray, List.getElem_cons_zero, List.getElem_cons_succ, Act.put, List.setIfInBounds_toArray, List.set_cons_zero, List.set_cons_succ]
                refine wpAnyH_take (i := 20) (v := ?v20) rfl (by kernel_rfl) (by kernel_rfl) (by kernel_rfl) (fun _ _ _ h => h) (Or.inl ⟨by rfl, ?hy20⟩) (by assumption) ?rest20
                case hy20 => intro w hSw; (try dsimp only at hSw); go_simp; (try with_reducible rfl)
                simp only [List.getElem_toArray, List.getElem_cons_zero, List.getElem_cons_succ, Act.put, List.setIfInBounds_toArray, List.set_cons_zero, List.set_cons_succ]
                refine wpAnyH_ready (rs := [21]) (by kernel_rfl) (by simp) ?_
                refine AllReadyH.cons rfl (fun K hK => ?_) AllReadyH.nil
                go_simp
                (go_at_call 20; (with_reducible refine (C1.out _).mono ?_); rintro e w11 ⟨rfl, hb⟩)
                refine hK.out _ _ (KS _ (KT _ _ (And.left (by assumption)) hb)) (fun hHeld => ?_)
                clear hK K
                refine wpAnyH_take (i := 22) (v := ?v22) rfl (by kernel_rfl) (by kernel_rfl) (by kernel_rfl) (fun _ _ _ h => h) (Or.inl ⟨by rfl, ?hy22⟩) (by assumption) ?rest22
                case hy22 => intro w hSw; (try dsimp only at hSw); go_simp; (try with_reducible rfl)
                simp only [List.getElem_toArray, List.getElem_cons_zero, List.getElem_cons_succ, Act.put, List.setIfInBounds_toArray, List.set_cons_zero, List.set_cons_succ]
                refine wpAnyH_take (i := 23) (v := undef) rfl (by kernel_rfl) (by kernel_rfl) (by kernel_rfl) (fun _ _ _ h => h) (Or.inr ⟨by rfl, rfl⟩) (by assumption) ?_
                simp only [List.getElem_toArray, List.getElem_cons_zero, List.getElem_cons_succ, Act.put, List.setIfInBounds_toArray, List.set_cons_zero, List.set_cons_succ]
                refine wpAnyH_take (i := 24) (v := undef) rfl (by kernel_rfl) (by kernel_rfl) (by kernel_rfl) (fun _ _ _ h => h) (Or.inr ⟨by rfl, rfl⟩) (by assumption) ?_
                simp only [List.getElem_toArray, List.getElem_cons_zero, List.getElem_cons_succ, Act.put, List.setIfInBounds_toArray, List.set_cons_zero, List.set_cons_succ]
                refine wpAnyH_take (i := 25) (v := undef) rfl (by kernel_rfl) (by kernel_rfl) (by kernel_rfl) (fun _ _ _ h => h) (Or.inr ⟨by rfl, rfl⟩) (by assumption) ?_
                simp only [List.getElem_toArray, List.getElem_cons_zero, List.getElem_cons_succ, Act.put, List.setIfInBounds_toArray, List.set_cons_zero, List.set_cons_succ]
                refine wpAnyH_take (i := 26) (v := ?v26) rfl (by kernel_rfl) (by kernel_rfl) (by kernel_rfl) (fun _ _ _ h => h) (Or.inl ⟨by rfl, ?hy26⟩) (by assumption) ?rest26
                case hy26 => intro w hSw; (try dsimp only at hSw); go_simp; (try with_reducible rfl)
                simp only [List.getElem_toArray, List.getElem_cons_zero, List.getElem_cons_succ, Act.put, List.setIfInBounds_toArray, List.set_cons_zero, List.set_cons_succ]
                refine wpAnyH_take (i := 27) (v := ?v27) rfl (by kernel_rfl) (by kernel_rfl) (by kernel_rfl) (fun _ _ _ h => h) (Or.inl ⟨by rfl, ?hy27⟩) (by assumption) ?rest27
                case hy27 => intro w hSw; (try dsimp only at hSw); go_simp; (try with_reducible rfl)
                simp only [List.getElem_toArray, List.getElem_cons_zero, List.getElem_cons_succ, Act.put, List.setIfInBounds_toArray, List.set_cons_zero, List.set_cons_succ]
                refine wpAnyH_take (i := 28) (v := ?v28) rfl (by kernel_rfl) (by kernel_rfl) (by kernel_rfl) (fun _ _ _ h => h) (Or.inl ⟨by rfl, ?hy28⟩) (by assumption) ?rest28
                case hy28 => intro w hSw; (try dsimp only at hSw); go_simp; (try with_reducible rfl)
                simp only [List.getElem_toArray, List.getElem_cons_zero, List.getElem_cons_succ, Act.put, List.setIfInBounds_toArray, List.set_cons_zero, List.set_cons_succ]
                refine wpAnyH_take (i := 29) (v := ?v29) rfl (by kernel_rfl) (by kernel_rfl) (by kernel_rfl) (fun _ _ _ h => h) (Or.inl ⟨by rfl, ?hy29⟩) (by assumption) ?rest29
                case hy29 => intro w hSw; (try dsimp only at hSw); go_simp; (try with_reducible rfl)
                simp only [List.getElem_toArray, List.getElem_cons_zero, List.getElem_cons_succ, Act.put, List.setIfInBounds_toArray, List.set_cons_zero, List.set_cons_succ]
                refine wpAnyH_take (i := 30) (v := ?v30) rfl (by kernel_rfl) (by kernel_rfl) (by kernel_rfl) (fun _ _ _ h => h) (Or.inl ⟨by rfl, ?hy30⟩) (by assumption) ?rest30
                case hy30 => intro w hSw; (try dsimp only at hSw); go_simp; (try with_reducible rfl)
                simp only [List.getElem_toArray, List.getElem_cons_zero, List.getElem_cons_succ, Act.put, List.setIfInBounds_toArray, List.set_cons_zero, List.set_cons_succ]
                refine wpAnyH_take (i := 33) (v := ?v33) rfl (by kernel_rfl) (by kernel_rfl) (by kernel_rfl) (fun _ _ _ h => h) (Or.inl ⟨by rfl, ?hy33⟩) (by assumption) ?rest33
                case hy33 => intro w hSw; (try dsimp only at hSw); go_simp; (try with_reducible rfl)
                simp only [List.getElem_toArray, List.getElem_cons_zero, List.getElem_cons_succ, Act.put, List.setIfInBounds_toArray, List.set_cons_zero, List.set_cons_succ]
                refine wpAnyH_ready (rs := [31]) (by kernel_rfl) (by simp) ?_
                refine AllReadyH.cons rfl (fun K hK => ?_) AllReadyH.nil
                go_simp
                (go_at_call 27; (with_reducible refine (iItemText_val x tx _ (HT _ (by first | exact Below.drew B12 | exact And.left (by assumption))) HX.out).mono ?_); rintro e w11 ⟨rfl, hb⟩)
                refine hK.out _ _ (KS _ (KT _ _ (And.left (by assumption)) hb)) (fun hHeld => ?_)
                clear hK K
                refine wpAnyH_take (i := 32) (v := ?v32) rfl (by kernel_rfl) (by kernel_rfl) (by kernel_rfl) (fun _ _ _ h => h) (Or.inl ⟨by rfl, ?hy32⟩) (by assumption) ?rest32
                case hy32 => intro w hSw; (try dsimp only at hSw); go_simp; (try with_reducible rfl)
                simp only [List.getElem_toArray, List.getElem_cons_zero, List.getElem_cons_succ, Act.put, List.setIfInBounds_toArray, List.set_cons_zero, List.set_cons_succ]
                refine wpAnyH_ready (rs := [34]) (by kernel_rfl) (by simp) ?_
                refine AllReadyH.cons rfl (fun K hK => ?_) AllReadyH.nil
                go_simp
                (go_at_call 18; (with_reducible refine (iItemOk_val x u _ HU.out).mono ?_); rintro e w11 ⟨rfl, hb⟩)
                refine hK.out _ _ (KS _ (KT _ _ (And.left (by assumption)) hb)) (fun hHeld => ?_)
                clear hK K
                refine wpAnyH_take (i := 35) (v := ?v35) rfl (by kernel_rfl) (by kernel_rfl) (by kernel_rfl) (fun _ _ _ h => h) (Or.inl ⟨by rfl, ?hy35⟩) (by assumption) ?rest35
                case hy35 => intro w hSw; (try dsimp only at hSw); go_simp; (try with_reducible rfl)
                simp only [List.getElem_toArray, List.getElem_cons_zero, List.getElem_cons_succ, Act.put, List.setIfInBounds_toArray, List.set_cons_zero, List.set_cons_succ]
                refine wpAnyH_take (i := 36) (v := ?v36) rfl (by kernel_rfl) (by kernel_rfl) (by kernel_rfl) (fun _ _ _ h => h) (Or.inl ⟨by rfl, ?hy36⟩) (by assumption) ?rest36
                case hy36 => intro w hSw; (try dsimp only at hSw); go_simp; (try with_reducible rfl)
                simp only [List.getElem_toArray, List.getElem_cons_zero, List.getElem_cons_succ, Act.put, List.setIfInBounds_toArray, List.set_cons_zero, List.set_cons_succ]
                refine wpAnyH_take (i := 37) (v := ?v37) rfl (by kernel_rfl) (by kernel_rfl) (by kernel_rfl) (fun _ _ _ h => h) (Or.inl ⟨by rfl, ?hy37⟩) (by assumption) ?rest37
                case hy37 => intro w hSw; (try dsimp only at hSw); go_simp; (try with_reducible rfl)
                simp only [List.getElem_toArray, List.getElem_cons_zero, List.getElem_cons_succ, Act.put, List.setIfInBounds_toArray, List.set_cons_zero, List.set_cons_succ]
                refine wpAnyH_done (by kernel_rfl) ?_ _
                refine NoPanic.normal ?_
                have B13 := hHeld.1
                clear hHeld
                go_wp2
                go_ret
                exact ⟨ret_bool HE.out, B.trans (B13.mono B.size)⟩
  · go_enter Tryd.func3, Tryd.ntmps3
    go_wp2_with fail
    refine (big_yes A _ cap _ hn (by have := h.1.2.1; have := h.1.2.2.1; omega)).mono ?_
    rintro e w0 ⟨rfl, rfl⟩
    go_wp2
    go_ret
    exact ⟨rfl, Below.refl _ _⟩
end Go.Proofs.YtgjbngfcllanmaaDoor
