/- The law FnDigits: an integer comes back of its digits; a quotient that is rounded up is sufficient. -/
import Derived.Test.YtpjboijmajlocaaDoorStr
import Derived.Test.YtpjboijmajlocaaDoorDraw
import Derived.Test.YtpjboijmajlocaaDoorBig
import Derived.Test.YtpjboijmajlocaaDoorMin
namespace Go.Proofs.YtpjboijmajlocaaDoor
open Go.RowKit

/-- Two integers, drawn. -/
def DrawnII (P : Int → Prop) (w : World) (e : Ending) (w' : World) : Prop :=
  ∃ x y, e = .returned (.tuple #[.int .i64 x, .int .i64 y]) ∧ (Lit.int .i64 x).wf = true ∧ P y ∧ Below w.heap.size w w'
def DrawnN (w : World) (e : Ending) (w' : World) : Prop := ∃ x, e = .returned (.int .i64 x) ∧ (Lit.int .i64 x).wf = true ∧ Below w.heap.size w w'
def DrawnT (w : World) (e : Ending) (w' : World) : Prop := ∃ s : ByteArray, e = .returned (.string s) ∧ s.size ≤ 100 ∧ Below w.heap.size w w'

set_option maxHeartbeats 800000 in
theorem drawNumText_any (a : Option Addr) (cap : Nat) (zs : List Int) (w : World) (h : RdI .u8 w a zs.length cap zs) (hz : ∀ z ∈ zs, 0 ≤ z ∧ z ≤ 255) (hn : zs.length ≤ 1048576) :
    Calls Tryd.prog 7 #[.slice a zs.length cap] w (DrawnN w) := by
  go_enter Tryd.func7, Tryd.ntmps7
  go_wp2_with fail
  refine (l1New_any a cap zs _ h hz hn).mono ?_
  rintro e w1 ⟨g, rfl, c1, b1, hg⟩
  clear h hz
  go_wp2_with fail
  refine (l1Once_any g zs 2 _ c1 (by omega)).mono ?_
  rintro e w2 ⟨b, rfl, c2, g2⟩
  replace b1 := below_grown b1 g2 hg
  clear g2 c1
  cases b with
  | true =>
    go_wp2_with fail
    refine (l1Raw_any g zs _ c2).mono ?_
    rintro e w3 ⟨x, rfl, hx, c3, g3⟩
    replace b1 := below_grown b1 g3 hg
    go_wp2
    go_ret
    exact ⟨_, rfl, hx, b1⟩
  | false =>
    go_wp2_with fail
    refine (l1Below_any g zs 100000 _ c2 (by omega)).mono ?_
    rintro e w3 ⟨x, rfl, x0, x1, c3, g3⟩
    replace b1 := below_grown b1 g3 hg
    have x1' : x ≤ 99999 := by simpa using x1
    clear x1
    go_wp2
    go_ret
    exact ⟨_, rfl, wf_small _ (by omega) (by omega), b1⟩

set_option maxHeartbeats 800000 in
theorem drawLeast_any (a : Option Addr) (cap : Nat) (zs : List Int) (w : World) (h : RdI .u8 w a zs.length cap zs) (hz : ∀ z ∈ zs, 0 ≤ z ∧ z ≤ 255) (hn : zs.length ≤ 1048576) :
    Calls Tryd.prog 12 #[.slice a zs.length cap] w (DrawnII (fun y => (Lit.int .i64 y).wf = true) w) := by
  go_enter Tryd.func12, Tryd.ntmps12
  go_wp2_with fail
  refine (l1New_any a cap zs _ h hz hn).mono ?_
  rintro e w1 ⟨g, rfl, c1, b1, hg⟩
  clear h hz
  go_wp2_with fail
  refine (l1Raw_any g zs _ c1).mono ?_
  rintro e w2 ⟨x, rfl, hx, c2, g2⟩
  replace b1 := below_grown b1 g2 hg
  clear g2 c1
  go_wp2_with fail
  refine (l1Raw_any g zs _ c2).mono ?_
  rintro e w3 ⟨y, rfl, hy, c3, g3⟩
  replace b1 := below_grown b1 g3 hg
  go_wp2
  go_ret2
  exact ⟨x, y, rfl, hx, hy, b1⟩

set_option maxHeartbeats 800000 in
theorem drawMost_any (a : Option Addr) (cap : Nat) (zs : List Int) (w : World) (h : RdI .u8 w a zs.length cap zs) (hz : ∀ z ∈ zs, 0 ≤ z ∧ z ≤ 255) (hn : zs.length ≤ 1048576) :
    Calls Tryd.prog 13 #[.slice a zs.length cap] w (DrawnII (fun y => (Lit.int .i64 y).wf = true) w) := by
  go_enter Tryd.func13, Tryd.ntmps13
  go_wp2_with fail
  refine (l1New_any a cap zs _ h hz hn).mono ?_
  rintro e w1 ⟨g, rfl, c1, b1, hg⟩
  clear h hz
  go_wp2_with fail
  refine (l1Raw_any g zs _ c1).mono ?_
  rintro e w2 ⟨x, rfl, hx, c2, g2⟩
  replace b1 := below_grown b1 g2 hg
  clear g2 c1
  go_wp2_with fail
  refine (l1Raw_any g zs _ c2).mono ?_
  rintro e w3 ⟨y, rfl, hy, c3, g3⟩
  replace b1 := below_grown b1 g3 hg
  go_wp2
  go_ret2
  exact ⟨x, y, rfl, hx, hy, b1⟩

def ups : List Int := [4, 4, 1, 3, 0, -1]

/-- A draw out of a list that has just been laid. -/
theorem drawnOf_alloc {g : Nat} {zs l : List Int} {w : World} {o : Obj} {e : Ending} {w' : World} (h : DrawnOf g zs l (w.alloc o) e w') : DrawnOf g zs l w e w' := by
  obtain ⟨x, he, hx, hc, hw⟩ := h
  refine ⟨x, he, hx, hc, ⟨hw.os, hw.tape, hw.output, by have := hw.size; simp at this; omega, fun i hi hne => ?_⟩⟩
  rw [hw.block i (by simp; omega) hne]
  exact heap_alloc_old w o hi

set_option maxHeartbeats 800000 in
theorem drawUp_any (a : Option Addr) (cap : Nat) (zs : List Int) (w : World) (h : RdI .u8 w a zs.length cap zs) (hz : ∀ z ∈ zs, 0 ≤ z ∧ z ≤ 255) (hn : zs.length ≤ 1048576) :
    Calls Tryd.prog 14 #[.slice a zs.length cap] w (DrawnII (fun y => y ∈ ups) w) := by
  go_enter Tryd.func14, Tryd.ntmps14
  go_wp2_with fail
  refine (l1New_any a cap zs _ h hz hn).mono ?_
  rintro e w1 ⟨g, rfl, c1, b1, hg⟩
  clear h hz
  go_wp2_with fail
  refine (l1Raw_any g zs _ c1).mono ?_
  rintro e w2 ⟨x, rfl, hx, c2, g2⟩
  replace b1 := below_grown b1 g2 hg
  have hlt := cur_lt c2
  clear g2 c1
  go_wp2_with fail
  refine (l1Int_any g zs ups (some ⟨w2.heap.size, 0, none⟩) 6 6 _ (cur_alloc c2 _) (rdI_new w2 .i64 ups _ _ 6 rfl rfl (by simp [maxLen])) (by omega) (by omega) (fun x hx => by cases hx; simp; omega)).mono ?_
  intro e w3 hd
  obtain ⟨y, rfl, hy, c3, g3⟩ := drawnOf_alloc hd
  replace b1 := below_grown b1 g3 hg
  clear hd
  go_wp2
  go_ret2
  exact ⟨x, y, rfl, hx, hy, b1⟩

/-- A slice of strings that has just been laid. -/
def RdS (w : World) (a : Option Addr) (n : Nat) (l : List ByteArray) : Prop := l.length = n ∧ ∃ b off, a = some ⟨b, off, none⟩ ∧ ∀ i, i < n → w.cell? ⟨b, off + i, none⟩ = some (.string (l.getD i ByteArray.empty))
def DrawnStr (g : Nat) (zs : List Int) (l : List ByteArray) (w : World) (e : Ending) (w' : World) : Prop := ∃ x, e = .returned (.string x) ∧ x ∈ l ∧ Cur g zs w' ∧ w.grownBy w' (some g)

set_option maxHeartbeats 400000 in
theorem l1Str_any (g : Nat) (zs : List Int) (l : List ByteArray) (a : Option Addr) (n cap : Nat) (w : World) (h : Cur g zs w) (hr : RdS w a n l) (hl : 0 < n) (hl2 : n ≤ 1000) (ha : ∀ x, a = some x → x.block ≠ g) :
    Calls Tryd.prog 28 #[.pointer (some ⟨g, 0, none⟩), .slice a n cap] w (DrawnStr g zs l w) := by
  have hln := hr.1
  subst hln
  have hq : (0 : Int) < l.length := by omega
  go_enter Tryd.func28, Tryd.ntmps28
  go_wp2_with fail
  refine (l1Below_any g zs l.length _ h (by omega)).mono ?_
  rintro e w1 ⟨x, rfl, x0, x1, c1, g1⟩
  rw [if_pos hq] at x1
  obtain ⟨m, rfl⟩ := Int.eq_ofNat_of_zero_le x0
  obtain ⟨b, off, rfl, hc⟩ := hr.2
  have hcm := hc m (by omega)
  rw [← World.cell?_of_block (a := ⟨b, off + m, none⟩) (g1.block b (World.block_lt_of_cell? w ⟨b, off + m, none⟩ hcm) (fun e => ha _ rfl (by simpa using e)))] at hcm
  have hm : l.getD m ByteArray.empty ∈ l := by
    have : m < l.length := by omega
    simp [List.getD, this]
  obtain ⟨q, hq'⟩ : ∃ q, q = l.getD m ByteArray.empty := ⟨_, rfl⟩
  rw [← hq'] at hcm hm
  clear hc hr hq'
  go_wp2
  go_ret
  exact ⟨_, rfl, hm, c1, g1⟩

def strs : List ByteArray := [⟨#[]⟩, ⟨#[48]⟩, ⟨#[48, 48]⟩, ⟨#[48, 49]⟩, ⟨#[55]⟩, ⟨#[57, 57, 57, 57, 57]⟩, ⟨#[49, 48, 48, 48, 48, 48]⟩, ⟨#[45, 49]⟩, ⟨#[49, 120]⟩, ⟨#[32, 49]⟩]
theorem strs_size : ∀ x ∈ strs, x.size ≤ 100 := by decide

set_option maxHeartbeats 800000 in
theorem drawParseNum_any (a : Option Addr) (cap : Nat) (zs : List Int) (w : World) (h : RdI .u8 w a zs.length cap zs) (hz : ∀ z ∈ zs, 0 ≤ z ∧ z ≤ 255) (hn : zs.length ≤ 1048576) :
    Calls Tryd.prog 10 #[.slice a zs.length cap] w (DrawnT w) := by
  go_enter Tryd.func10, Tryd.ntmps10
  go_wp2_with fail
  refine (l1New_any a cap zs _ h hz hn).mono ?_
  rintro e w1 ⟨g, rfl, c1, b1, hg⟩
  clear h hz
  go_wp2_with fail
  refine (l1Once_any g zs 2 _ c1 (by omega)).mono ?_
  rintro e w2 ⟨b, rfl, c2, g2⟩
  replace b1 := below_grown b1 g2 hg
  clear g2 c1
  cases b with
  | true =>
    have hlt := cur_lt c2
    go_wp2_with fail
    refine (l1Str_any g zs strs (some ⟨w2.heap.size, 0, none⟩) 10 10 _ (cur_alloc c2 _) ?_ (by omega) (by omega) (fun x hx => by cases hx; simp; omega)).mono ?_
    · refine ⟨rfl, w2.heap.size, 0, rfl, fun i hi => ?_⟩
      have := World.ownsRow.cellAt (World.ownsRow_lit (base := 0) (size := 1) (e := 9) w2 (strs.map Value.string).toArray 10 (Nat.zero_le _) (by simp [maxLen]) (by rfl)) i (by omega)
      rw [Nat.zero_add]
      refine Eq.trans this ?_
      match i, hi with
      | 0, _ => rfl
      | 1, _ => rfl
      | 2, _ => rfl
      | 3, _ => rfl
      | 4, _ => rfl
      | 5, _ => rfl
      | 6, _ => rfl
      | 7, _ => rfl
      | 8, _ => rfl
      | 9, _ => rfl
      | k + 10, hk => omega
    rintro e w3 ⟨x, rfl, hx, c3, g3⟩
    have b3 : Below w.heap.size w w3 := below_grown (b1.alloc b1.size _) g3 hg
    go_wp2
    go_ret
    exact ⟨_, rfl, strs_size _ hx, b3⟩
  | false =>
    go_wp2_with fail
    refine (l1Below_any g zs 100000 _ c2 (by omega)).mono ?_
    rintro e w3 ⟨x, rfl, x0, x1, c3, g3⟩
    replace b1 := below_grown b1 g3 hg
    have x1' : x ≤ 99999 := by simpa using x1
    clear x1 g3
    go_wp2_with fail
    refine (sNumText_any x (wf_small _ (by omega) (by omega)) w3).mono ?_
    rintro e w4 ⟨rfl, b4⟩
    have B := b1.trans (b4.mono b1.size)
    have hl := Lib.itoa_length_le x (by omega) (by omega)
    go_wp2
    go_ret
    exact ⟨_, rfl, by show (Lib.itoa x).length ≤ 100; omega, B⟩

set_option maxHeartbeats 6400000 in
set_option maxRecDepth 100000 in
theorem fnDigits_walk (a : Option Addr) (n cap : Nat) (zs : List Int) (w : World) (h : RdI .u8 w a n cap zs) (hz : ∀ z ∈ zs, 0 ≤ z ∧ z ≤ 255) (hv : Vars w) :
    Calls Tryd.prog 3 #[.slice a n cap] w fun e w' => e = .returned (.bool true) ∧ Below w.heap.size w w' := by
  have hln := h.1.1
  subst hln
  have HZ := Lib.hid hz
  have HV := Lib.hid hv
  clear hz hv
  by_cases hn : zs.length ≤ 1048576
  · go_enter Tryd.func3, Tryd.ntmps3
    go_wp2_with fail
    refine (big_no a _ cap _ hn).mono ?_
    rintro e w0 ⟨rfl, rfl⟩
    go_wp2_with fail
    refine (drawNumText_any a cap zs _ h HZ.out hn).mono ?_
    rintro e w1 ⟨x, rfl, hx, b1⟩
    obtain ⟨hx0, hx1⟩ := bounds_i64 hx
    go_wp2_with fail
    refine (numText_any x hx w1 (HV.out.below b1)).mono ?_
    rintro e w2 ⟨rfl, b2⟩
    have B2 := b1.trans (b2.mono b1.size)
    clear b1 b2
    have hil := Lib.itoa_length_le x hx0 hx1
    go_wp2_with fail
    refine (show Calls Tryd.prog 9 #[.string ⟨(Lib.itoa x).toArray⟩] w2 (Num (Lib.itoa x) w2) from parseNum_any ⟨(Lib.itoa x).toArray⟩ (by show (Lib.itoa x).length ≤ _; omega) w2 (HV.out.below B2)).mono ?_
    rintro e w3 ⟨rfl, b3⟩
    have B3 := B2.trans (b3.mono B2.size)
    clear b3
    go_wp2_with fail
    refine (drawParseNum_any a cap zs _ (h.below B3) HZ.out hn).mono ?_
    rintro e w4 ⟨t, rfl, ht, b4⟩
    have B4 := B3.trans (b4.mono B3.size)
    clear b4
    go_wp2_with fail
    refine (parseNum_any t (by omega) w4 (HV.out.below B4)).mono ?_
    rintro e w5 ⟨rfl, b5⟩
    have B5 := B4.trans (b5.mono B4.size)
    clear b5
    go_wp2_with fail
    refine (sParseNum_any t (by omega) w5).mono ?_
    rintro e w6 ⟨rfl, b6⟩
    have B6 := B5.trans (b6.mono B5.size)
    clear b6
    go_wp2_with fail
    refine (drawLeast_any a cap zs _ (h.below B6) HZ.out hn).mono ?_
    rintro e w7 ⟨la, lb, rfl, hla, hlb, b7⟩
    have B7 := B6.trans (b7.mono B6.size)
    clear b7
    go_wp2_with fail
    refine (drawMost_any a cap zs _ (h.below B7) HZ.out hn).mono ?_
    rintro e w8 ⟨ma, mb, rfl, hma, hmb, b8⟩
    have B8 := B7.trans (b8.mono B7.size)
    clear b8
    go_wp2_with fail
    refine (drawUp_any a cap zs _ (h.below B8) HZ.out hn).mono ?_
    rintro e w9 ⟨ue, uf, rfl, hue, huf, b9⟩
    have B9 := B8.trans (b9.mono B8.size)
    clear b9
    go_wp2_with fail
    refine (iUp_any ue uf hue w9).mono ?_
    rintro e w10 ⟨rfl, rfl⟩
    go_wp2_with fail
    refine (sNumText_any x hx w9).mono ?_
    rintro e w11 ⟨rfl, b11⟩
    have B11 := B9.trans (b11.mono B9.size)
    clear b11
    go_wp2_with fail
    refine (iLeast_any la lb w11).mono ?_
    rintro e w12 ⟨rfl, rfl⟩
    go_wp2_with fail
    refine (sLeast_any la lb w11).mono ?_
    rintro e w12 ⟨rfl, rfl⟩
    go_wp2_with fail
    refine (iMost_any ma mb w11).mono ?_
    rintro e w12 ⟨rfl, rfl⟩
    go_wp2_with fail
    refine (sMost_any ma mb w11).mono ?_
    rintro e w12 ⟨rfl, rfl⟩
    go_wp2_with fail
    refine (sUp_any ue uf hue w11).mono ?_
    rintro e w12 ⟨rfl, rfl⟩
    have hlm := lst_le_mst la lb
    have huf4 : uf ≤ 4 := by
      have : uf = 4 ∨ uf = 4 ∨ uf = 1 ∨ uf = 3 ∨ uf = 0 ∨ uf = -1 := by simpa [ups] using huf
      omega
    clear hil B2 B3 B4 B5 B6 B7 B8 B9 ht hla hlb hma hmb hue huf hx
    by_cases hnt : isNum t.data.toList = true
    · obtain ⟨y1, y2, y3⟩ := pnum_back _ hnt
      have HY : Hid ((Lit.int .i64 (pnum t.data.toList)).wf = true) := wf_small _ (by omega) (by omega)
      have y4 : (Lib.itoa (pnum t.data.toList) == t.toList) = true := by rw [Lib.toList_data, beq_iff_eq]; exact y1
      clear y1
      by_cases hr : 0 ≤ x ∧ x ≤ 99999
      · obtain ⟨i1, i2⟩ := itoa_in x hr.1 hr.2
        obtain ⟨hr0, hr1⟩ := hr
        have d4 : decide (0 ≤ x) = true := decide_eq_true hr0
        have d5 : decide (x ≤ 99999) = true := decide_eq_true hr1
        by_cases he1 : ue < 1
        · have d1 : decide (ue < 1) = true := decide_eq_true he1
          go_wp2_with fail
          refine (numText_any (pnum t.data.toList) HY.out w11 (HV.out.below B11)).mono ?_
          rintro e w13 ⟨rfl, b13⟩
          have B13 := B11.trans (b13.mono B11.size)
          clear b13
          go_wp2_with fail
          refine (iLeast_any la lb w13).mono ?_
          rintro e w14 ⟨rfl, rfl⟩
          go_wp2_with fail
          refine (iMost_any la lb w13).mono ?_
          rintro e w15 ⟨rfl, rfl⟩
          go_wp2
          go_ret
          exact ⟨rfl, B13⟩
        by_cases he2 : uf < 1
        · have d1 : decide (ue < 1) = false := decide_eq_false he1
          have d2 : decide (uf < 1) = true := decide_eq_true he2
          go_wp2_with fail
          refine (numText_any (pnum t.data.toList) HY.out w11 (HV.out.below B11)).mono ?_
          rintro e w13 ⟨rfl, b13⟩
          have B13 := B11.trans (b13.mono B11.size)
          clear b13
          go_wp2_with fail
          refine (iLeast_any la lb w13).mono ?_
          rintro e w14 ⟨rfl, rfl⟩
          go_wp2_with fail
          refine (iMost_any la lb w13).mono ?_
          rintro e w15 ⟨rfl, rfl⟩
          go_wp2
          go_ret
          exact ⟨rfl, B13⟩
        by_cases he3 : 1073741824 < ue
        · have d1 : decide (ue < 1) = false := decide_eq_false he1
          have d2 : decide (uf < 1) = false := decide_eq_false he2
          have d3 : decide (1073741824 < ue) = true := decide_eq_true he3
          go_wp2_with fail
          refine (numText_any (pnum t.data.toList) HY.out w11 (HV.out.below B11)).mono ?_
          rintro e w13 ⟨rfl, b13⟩
          have B13 := B11.trans (b13.mono B11.size)
          clear b13
          go_wp2_with fail
          refine (iLeast_any la lb w13).mono ?_
          rintro e w14 ⟨rfl, rfl⟩
          go_wp2_with fail
          refine (iMost_any la lb w13).mono ?_
          rintro e w15 ⟨rfl, rfl⟩
          go_wp2
          go_ret
          exact ⟨rfl, B13⟩
        obtain ⟨u1, u2, u3, u4, u5, u6⟩ := upv_facts ue uf (by omega) (by omega)
        have U6 := Lib.hid u6
        have u7 : upv ue uf * uf ≤ 1073741824 + 4 := by omega
        clear u6
        have d1 : decide (ue < 1) = false := decide_eq_false he1
        have d2 : decide (uf < 1) = false := decide_eq_false he2
        have d3 : decide (1073741824 < ue) = false := decide_eq_false he3
        go_wp2_with fail
        refine (numText_any (pnum t.data.toList) HY.out w11 (HV.out.below B11)).mono ?_
        rintro e w13 ⟨rfl, b13⟩
        have B13 := B11.trans (b13.mono B11.size)
        clear b13
        go_wp2_with fail
        refine (iLeast_any la lb w13).mono ?_
        rintro e w14 ⟨rfl, rfl⟩
        go_wp2_with fail
        refine (iMost_any la lb w13).mono ?_
        rintro e w15 ⟨rfl, rfl⟩
        go_wp2
        go_ret
        exact ⟨rfl, B13⟩
      · have i1 := itoa_out x hr
        by_cases hr0 : 0 ≤ x
        · have hr1 : ¬ x ≤ 99999 := fun h => hr ⟨hr0, h⟩
          clear hr
          have d4 : decide (0 ≤ x) = true := decide_eq_true hr0
          have d5 : decide (x ≤ 99999) = false := decide_eq_false hr1
          by_cases he1 : ue < 1
          · have d1 : decide (ue < 1) = true := decide_eq_true he1
            go_wp2_with fail
            refine (numText_any (pnum t.data.toList) HY.out w11 (HV.out.below B11)).mono ?_
            rintro e w13 ⟨rfl, b13⟩
            have B13 := B11.trans (b13.mono B11.size)
            clear b13
            go_wp2_with fail
            refine (iLeast_any la lb w13).mono ?_
            rintro e w14 ⟨rfl, rfl⟩
            go_wp2_with fail
            refine (iMost_any la lb w13).mono ?_
            rintro e w15 ⟨rfl, rfl⟩
            go_wp2
            go_ret
            exact ⟨rfl, B13⟩
          by_cases he2 : uf < 1
          · have d1 : decide (ue < 1) = false := decide_eq_false he1
            have d2 : decide (uf < 1) = true := decide_eq_true he2
            go_wp2_with fail
            refine (numText_any (pnum t.data.toList) HY.out w11 (HV.out.below B11)).mono ?_
            rintro e w13 ⟨rfl, b13⟩
            have B13 := B11.trans (b13.mono B11.size)
            clear b13
            go_wp2_with fail
            refine (iLeast_any la lb w13).mono ?_
            rintro e w14 ⟨rfl, rfl⟩
            go_wp2_with fail
            refine (iMost_any la lb w13).mono ?_
            rintro e w15 ⟨rfl, rfl⟩
            go_wp2
            go_ret
            exact ⟨rfl, B13⟩
          by_cases he3 : 1073741824 < ue
          · have d1 : decide (ue < 1) = false := decide_eq_false he1
            have d2 : decide (uf < 1) = false := decide_eq_false he2
            have d3 : decide (1073741824 < ue) = true := decide_eq_true he3
            go_wp2_with fail
            refine (numText_any (pnum t.data.toList) HY.out w11 (HV.out.below B11)).mono ?_
            rintro e w13 ⟨rfl, b13⟩
            have B13 := B11.trans (b13.mono B11.size)
            clear b13
            go_wp2_with fail
            refine (iLeast_any la lb w13).mono ?_
            rintro e w14 ⟨rfl, rfl⟩
            go_wp2_with fail
            refine (iMost_any la lb w13).mono ?_
            rintro e w15 ⟨rfl, rfl⟩
            go_wp2
            go_ret
            exact ⟨rfl, B13⟩
          obtain ⟨u1, u2, u3, u4, u5, u6⟩ := upv_facts ue uf (by omega) (by omega)
          have U6 := Lib.hid u6
          have u7 : upv ue uf * uf ≤ 1073741824 + 4 := by omega
          clear u6
          have d1 : decide (ue < 1) = false := decide_eq_false he1
          have d2 : decide (uf < 1) = false := decide_eq_false he2
          have d3 : decide (1073741824 < ue) = false := decide_eq_false he3
          go_wp2_with fail
          refine (numText_any (pnum t.data.toList) HY.out w11 (HV.out.below B11)).mono ?_
          rintro e w13 ⟨rfl, b13⟩
          have B13 := B11.trans (b13.mono B11.size)
          clear b13
          go_wp2_with fail
          refine (iLeast_any la lb w13).mono ?_
          rintro e w14 ⟨rfl, rfl⟩
          go_wp2_with fail
          refine (iMost_any la lb w13).mono ?_
          rintro e w15 ⟨rfl, rfl⟩
          go_wp2
          go_ret
          exact ⟨rfl, B13⟩
        · clear hr
          have d4 : decide (0 ≤ x) = false := decide_eq_false hr0
          by_cases he1 : ue < 1
          · have d1 : decide (ue < 1) = true := decide_eq_true he1
            go_wp2_with fail
            refine (numText_any (pnum t.data.toList) HY.out w11 (HV.out.below B11)).mono ?_
            rintro e w13 ⟨rfl, b13⟩
            have B13 := B11.trans (b13.mono B11.size)
            clear b13
            go_wp2_with fail
            refine (iLeast_any la lb w13).mono ?_
            rintro e w14 ⟨rfl, rfl⟩
            go_wp2_with fail
            refine (iMost_any la lb w13).mono ?_
            rintro e w15 ⟨rfl, rfl⟩
            go_wp2
            go_ret
            exact ⟨rfl, B13⟩
          by_cases he2 : uf < 1
          · have d1 : decide (ue < 1) = false := decide_eq_false he1
            have d2 : decide (uf < 1) = true := decide_eq_true he2
            go_wp2_with fail
            refine (numText_any (pnum t.data.toList) HY.out w11 (HV.out.below B11)).mono ?_
            rintro e w13 ⟨rfl, b13⟩
            have B13 := B11.trans (b13.mono B11.size)
            clear b13
            go_wp2_with fail
            refine (iLeast_any la lb w13).mono ?_
            rintro e w14 ⟨rfl, rfl⟩
            go_wp2_with fail
            refine (iMost_any la lb w13).mono ?_
            rintro e w15 ⟨rfl, rfl⟩
            go_wp2
            go_ret
            exact ⟨rfl, B13⟩
          by_cases he3 : 1073741824 < ue
          · have d1 : decide (ue < 1) = false := decide_eq_false he1
            have d2 : decide (uf < 1) = false := decide_eq_false he2
            have d3 : decide (1073741824 < ue) = true := decide_eq_true he3
            go_wp2_with fail
            refine (numText_any (pnum t.data.toList) HY.out w11 (HV.out.below B11)).mono ?_
            rintro e w13 ⟨rfl, b13⟩
            have B13 := B11.trans (b13.mono B11.size)
            clear b13
            go_wp2_with fail
            refine (iLeast_any la lb w13).mono ?_
            rintro e w14 ⟨rfl, rfl⟩
            go_wp2_with fail
            refine (iMost_any la lb w13).mono ?_
            rintro e w15 ⟨rfl, rfl⟩
            go_wp2
            go_ret
            exact ⟨rfl, B13⟩
          obtain ⟨u1, u2, u3, u4, u5, u6⟩ := upv_facts ue uf (by omega) (by omega)
          have U6 := Lib.hid u6
          have u7 : upv ue uf * uf ≤ 1073741824 + 4 := by omega
          clear u6
          have d1 : decide (ue < 1) = false := decide_eq_false he1
          have d2 : decide (uf < 1) = false := decide_eq_false he2
          have d3 : decide (1073741824 < ue) = false := decide_eq_false he3
          go_wp2_with fail
          refine (numText_any (pnum t.data.toList) HY.out w11 (HV.out.below B11)).mono ?_
          rintro e w13 ⟨rfl, b13⟩
          have B13 := B11.trans (b13.mono B11.size)
          clear b13
          go_wp2_with fail
          refine (iLeast_any la lb w13).mono ?_
          rintro e w14 ⟨rfl, rfl⟩
          go_wp2_with fail
          refine (iMost_any la lb w13).mono ?_
          rintro e w15 ⟨rfl, rfl⟩
          go_wp2
          go_ret
          exact ⟨rfl, B13⟩
    · replace hnt : isNum t.data.toList = false := by simpa using hnt
      by_cases hr : 0 ≤ x ∧ x ≤ 99999
      · obtain ⟨i1, i2⟩ := itoa_in x hr.1 hr.2
        obtain ⟨hr0, hr1⟩ := hr
        have d4 : decide (0 ≤ x) = true := decide_eq_true hr0
        have d5 : decide (x ≤ 99999) = true := decide_eq_true hr1
        by_cases he1 : ue < 1
        · have d1 : decide (ue < 1) = true := decide_eq_true he1
          go_wp2_with fail
          refine (iLeast_any la lb w11).mono ?_
          rintro e w14 ⟨rfl, rfl⟩
          go_wp2_with fail
          refine (iMost_any la lb w11).mono ?_
          rintro e w15 ⟨rfl, rfl⟩
          go_wp2
          go_ret
          exact ⟨rfl, B11⟩
        by_cases he2 : uf < 1
        · have d1 : decide (ue < 1) = false := decide_eq_false he1
          have d2 : decide (uf < 1) = true := decide_eq_true he2
          go_wp2_with fail
          refine (iLeast_any la lb w11).mono ?_
          rintro e w14 ⟨rfl, rfl⟩
          go_wp2_with fail
          refine (iMost_any la lb w11).mono ?_
          rintro e w15 ⟨rfl, rfl⟩
          go_wp2
          go_ret
          exact ⟨rfl, B11⟩
        by_cases he3 : 1073741824 < ue
        · have d1 : decide (ue < 1) = false := decide_eq_false he1
          have d2 : decide (uf < 1) = false := decide_eq_false he2
          have d3 : decide (1073741824 < ue) = true := decide_eq_true he3
          go_wp2_with fail
          refine (iLeast_any la lb w11).mono ?_
          rintro e w14 ⟨rfl, rfl⟩
          go_wp2_with fail
          refine (iMost_any la lb w11).mono ?_
          rintro e w15 ⟨rfl, rfl⟩
          go_wp2
          go_ret
          exact ⟨rfl, B11⟩
        obtain ⟨u1, u2, u3, u4, u5, u6⟩ := upv_facts ue uf (by omega) (by omega)
        have U6 := Lib.hid u6
        have u7 : upv ue uf * uf ≤ 1073741824 + 4 := by omega
        clear u6
        have d1 : decide (ue < 1) = false := decide_eq_false he1
        have d2 : decide (uf < 1) = false := decide_eq_false he2
        have d3 : decide (1073741824 < ue) = false := decide_eq_false he3
        go_wp2_with fail
        refine (iLeast_any la lb w11).mono ?_
        rintro e w14 ⟨rfl, rfl⟩
        go_wp2_with fail
        refine (iMost_any la lb w11).mono ?_
        rintro e w15 ⟨rfl, rfl⟩
        go_wp2
        go_ret
        exact ⟨rfl, B11⟩
      · have i1 := itoa_out x hr
        by_cases hr0 : 0 ≤ x
        · have hr1 : ¬ x ≤ 99999 := fun h => hr ⟨hr0, h⟩
          clear hr
          have d4 : decide (0 ≤ x) = true := decide_eq_true hr0
          have d5 : decide (x ≤ 99999) = false := decide_eq_false hr1
          by_cases he1 : ue < 1
          · have d1 : decide (ue < 1) = true := decide_eq_true he1
            go_wp2_with fail
            refine (iLeast_any la lb w11).mono ?_
            rintro e w14 ⟨rfl, rfl⟩
            go_wp2_with fail
            refine (iMost_any la lb w11).mono ?_
            rintro e w15 ⟨rfl, rfl⟩
            go_wp2
            go_ret
            exact ⟨rfl, B11⟩
          by_cases he2 : uf < 1
          · have d1 : decide (ue < 1) = false := decide_eq_false he1
            have d2 : decide (uf < 1) = true := decide_eq_true he2
            go_wp2_with fail
            refine (iLeast_any la lb w11).mono ?_
            rintro e w14 ⟨rfl, rfl⟩
            go_wp2_with fail
            refine (iMost_any la lb w11).mono ?_
            rintro e w15 ⟨rfl, rfl⟩
            go_wp2
            go_ret
            exact ⟨rfl, B11⟩
          by_cases he3 : 1073741824 < ue
          · have d1 : decide (ue < 1) = false := decide_eq_false he1
            have d2 : decide (uf < 1) = false := decide_eq_false he2
            have d3 : decide (1073741824 < ue) = true := decide_eq_true he3
            go_wp2_with fail
            refine (iLeast_any la lb w11).mono ?_
            rintro e w14 ⟨rfl, rfl⟩
            go_wp2_with fail
            refine (iMost_any la lb w11).mono ?_
            rintro e w15 ⟨rfl, rfl⟩
            go_wp2
            go_ret
            exact ⟨rfl, B11⟩
          obtain ⟨u1, u2, u3, u4, u5, u6⟩ := upv_facts ue uf (by omega) (by omega)
          have U6 := Lib.hid u6
          have u7 : upv ue uf * uf ≤ 1073741824 + 4 := by omega
          clear u6
          have d1 : decide (ue < 1) = false := decide_eq_false he1
          have d2 : decide (uf < 1) = false := decide_eq_false he2
          have d3 : decide (1073741824 < ue) = false := decide_eq_false he3
          go_wp2_with fail
          refine (iLeast_any la lb w11).mono ?_
          rintro e w14 ⟨rfl, rfl⟩
          go_wp2_with fail
          refine (iMost_any la lb w11).mono ?_
          rintro e w15 ⟨rfl, rfl⟩
          go_wp2
          go_ret
          exact ⟨rfl, B11⟩
        · clear hr
          have d4 : decide (0 ≤ x) = false := decide_eq_false hr0
          by_cases he1 : ue < 1
          · have d1 : decide (ue < 1) = true := decide_eq_true he1
            go_wp2_with fail
            refine (iLeast_any la lb w11).mono ?_
            rintro e w14 ⟨rfl, rfl⟩
            go_wp2_with fail
            refine (iMost_any la lb w11).mono ?_
            rintro e w15 ⟨rfl, rfl⟩
            go_wp2
            go_ret
            exact ⟨rfl, B11⟩
          by_cases he2 : uf < 1
          · have d1 : decide (ue < 1) = false := decide_eq_false he1
            have d2 : decide (uf < 1) = true := decide_eq_true he2
            go_wp2_with fail
            refine (iLeast_any la lb w11).mono ?_
            rintro e w14 ⟨rfl, rfl⟩
            go_wp2_with fail
            refine (iMost_any la lb w11).mono ?_
            rintro e w15 ⟨rfl, rfl⟩
            go_wp2
            go_ret
            exact ⟨rfl, B11⟩
          by_cases he3 : 1073741824 < ue
          · have d1 : decide (ue < 1) = false := decide_eq_false he1
            have d2 : decide (uf < 1) = false := decide_eq_false he2
            have d3 : decide (1073741824 < ue) = true := decide_eq_true he3
            go_wp2_with fail
            refine (iLeast_any la lb w11).mono ?_
            rintro e w14 ⟨rfl, rfl⟩
            go_wp2_with fail
            refine (iMost_any la lb w11).mono ?_
            rintro e w15 ⟨rfl, rfl⟩
            go_wp2
            go_ret
            exact ⟨rfl, B11⟩
          obtain ⟨u1, u2, u3, u4, u5, u6⟩ := upv_facts ue uf (by omega) (by omega)
          have U6 := Lib.hid u6
          have u7 : upv ue uf * uf ≤ 1073741824 + 4 := by omega
          clear u6
          have d1 : decide (ue < 1) = false := decide_eq_false he1
          have d2 : decide (uf < 1) = false := decide_eq_false he2
          have d3 : decide (1073741824 < ue) = false := decide_eq_false he3
          go_wp2_with fail
          refine (iLeast_any la lb w11).mono ?_
          rintro e w14 ⟨rfl, rfl⟩
          go_wp2_with fail
          refine (iMost_any la lb w11).mono ?_
          rintro e w15 ⟨rfl, rfl⟩
          go_wp2
          go_ret
          exact ⟨rfl, B11⟩
  · go_enter Tryd.func3, Tryd.ntmps3
    go_wp2_with fail
    refine (big_yes a _ cap _ hn (by have := h.1.2.1; have := h.1.2.2.1; omega)).mono ?_
    rintro e w0 ⟨rfl, rfl⟩
    go_wp2
    go_ret
    exact ⟨rfl, Below.refl _ _⟩
end Go.Proofs.YtpjboijmajlocaaDoor
