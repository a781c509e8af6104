/- The law FnNums: two-byte integers come back of their encodings; padding keeps the beginning. -/
import Derived.Test.YtpjboijmajlocaaNum
import Derived.Test.YtpjboijmajlocaaDraw
namespace Go.Proofs.Ytpjboijmajlocaa
open Go.RowKit

/-- A slice of few bytes and an integer, drawn. -/
def DrawnSI (w : World) (e : Ending) (w' : World) : Prop :=
  ∃ v ys x, e = .returned (.tuple #[v, .int .i64 x]) ∧ (∀ z ∈ ys, 0 ≤ z ∧ z ≤ 255) ∧ ys.length ≤ 10 ∧ (Lit.int .i64 x).wf = true ∧ Own .u8 5 w' w.heap.size v ys ∧ Below w.heap.size w w'

theorem own_grown {k : IntKind} {e : TypeId} {w w' : World} {base g : Nat} {v : Value} {zs : List Int} (h : Own k e w base v zs) (hg : w.grownBy w' (some g)) (hb : g < base) : Own k e w' base v zs := by
  refine Own.kept h hg ?_
  cases hv : v.ownBlock with
  | none => exact .inl rfl
  | some j => exact .inr fun e => by have := (h.lt j hv).1; simp at e; omega
theorem below_grown {w w1 w' : World} {g : Nat} (h : Below w.heap.size w w1) (hg : w1.grownBy w' (some g)) (hb : w.heap.size ≤ g) : Below w.heap.size w w' := h.grown hg h.size (fun k hk => by simp at hk; omega)

theorem wf_small (x : Int) (h0 : -1000000 ≤ x) (h1 : x ≤ 1000000) : (Lit.int .i64 x).wf = true := by
  simp [Lit.wf, IntKind.min, IntKind.max, IntKind.signed, IntKind.bits]; omega

set_option maxHeartbeats 800000 in
theorem drawGet2_any (a : Option Addr) (cap : Nat) (zs : List Int) (w : World) (h : RdI .u8 w a zs.length cap zs) (hz : ∀ z ∈ zs, 0 ≤ z ∧ z ≤ 255) (hn : zs.length ≤ 1048576) :
    Calls Try.prog 14 #[.slice a zs.length cap] w (DrawnSI w) := by
  go_enter Try.func14, Try.ntmps14
  go_wp2_with fail
  refine (l1New_any a cap zs _ h hz hn).mono ?_
  rintro e w1 ⟨g, rfl, c1, b1, hg⟩
  clear h hz
  go_wp2_with fail
  refine (l1Below_any g zs 6 _ c1 (by omega)).mono ?_
  rintro e w2 ⟨x, rfl, x0, x1, c2, g2⟩
  replace b1 := below_grown b1 g2 hg
  clear g2 c1
  go_wp2_with fail
  refine (l1Bytes_any g zs x _ c2 x0 (by simp at x1; omega)).mono ?_
  rintro e w3 ⟨v, ys, rfl, hl, hy, ho, c3, g3⟩
  have hsz := cur_lt c2
  have hs2 := b1.size
  replace b1 := below_grown b1 g3 hg
  clear g3 c2
  have HL := Lib.hid hl
  clear hl
  go_wp2_with fail
  refine (l1Below_any g zs 7 _ c3 (by omega)).mono ?_
  rintro e w4 ⟨y, rfl, y0, y1, c4, g4⟩
  replace b1 := below_grown b1 g4 hg
  replace ho := (own_grown ho g4 (by omega)).mono hs2
  clear g4
  have y1' : y ≤ 6 := by simpa using y1
  have x1' : x ≤ 5 := by simpa using x1
  clear x1 y1
  go_wp2
  go_ret2
  exact ⟨v, ys, y - 1, rfl, hy, by have := HL.out; omega, wf_small _ (by omega) (by omega), ho, b1⟩

def pads : List Int := [0, 3, 8, 32, 64, 65, -1]
theorem pads_wf : ∀ x ∈ pads, (Lit.int .i64 x).wf = true := by decide

set_option maxHeartbeats 800000 in
theorem drawPad_any (a : Option Addr) (cap : Nat) (zs : List Int) (w : World) (h : RdI .u8 w a zs.length cap zs) (hz : ∀ z ∈ zs, 0 ≤ z ∧ z ≤ 255) (hn : zs.length ≤ 1048576) :
    Calls Try.prog 16 #[.slice a zs.length cap] w (DrawnSI w) := by
  go_enter Try.func16, Try.ntmps16
  go_wp2_with fail
  refine (l1New_any a cap zs _ h hz hn).mono ?_
  rintro e w1 ⟨g, rfl, c1, b1, hg⟩
  clear h hz
  go_wp2_with fail
  refine (l1Below_any g zs 6 _ c1 (by omega)).mono ?_
  rintro e w2 ⟨x, rfl, x0, x1, c2, g2⟩
  replace b1 := below_grown b1 g2 hg
  clear g2 c1
  go_wp2_with fail
  refine (l1Bytes_any g zs x _ c2 x0 (by simp at x1; omega)).mono ?_
  rintro e w3 ⟨v, ys, rfl, hl, hy, ho, c3, g3⟩
  have hsz := cur_lt c2
  have hs2 := b1.size
  replace b1 := below_grown b1 g3 hg
  clear g3 c2
  have HL := Lib.hid hl
  clear hl
  have hlt := cur_lt c3
  have x1' : x ≤ 5 := by simpa using x1
  clear x1
  go_wp2_with fail
  refine (l1Int_any g zs pads (some ⟨w3.heap.size, 0, none⟩) 7 7 _ (cur_alloc c3 _) (rdI_new w3 .i64 pads _ _ 7 rfl rfl (by simp [maxLen])) (by omega) (by omega) (fun x hx => by cases hx; simp; omega)).mono ?_
  intro e w4 hd
  obtain ⟨y, rfl, hyw, c4, g4⟩ := drawnI_of pads_wf hd
  clear hd
  replace b1 := below_grown b1 g4 hg
  replace ho := (own_grown ho g4 (by omega)).mono hs2
  clear g4
  go_wp2
  go_ret2
  exact ⟨v, ys, y, rfl, hy, by have := HL.out; omega, hyw, ho, b1⟩

set_option maxHeartbeats 800000 in
theorem drawPut2_any (a : Option Addr) (cap : Nat) (zs : List Int) (w : World) (h : RdI .u8 w a zs.length cap zs) (hz : ∀ z ∈ zs, 0 ≤ z ∧ z ≤ 255) (hn : zs.length ≤ 1048576) :
    Calls Try.prog 11 #[.slice a zs.length cap] w (DrawnSI w) := by
  go_enter Try.func11, Try.ntmps11
  go_wp2_with fail
  refine (l1New_any a cap zs _ h hz hn).mono ?_
  rintro e w1 ⟨g, rfl, c1, b1, hg⟩
  clear h hz
  go_wp2_with fail
  refine (l1Below_any g zs 4 _ c1 (by omega)).mono ?_
  rintro e w2 ⟨x, rfl, x0, x1, c2, g2⟩
  replace b1 := below_grown b1 g2 hg
  clear g2 c1
  go_wp2_with fail
  refine (l1Bytes_any g zs x _ c2 x0 (by simp at x1; omega)).mono ?_
  rintro e w3 ⟨v, ys, rfl, hl, hy, ho, c3, g3⟩
  have hsz := cur_lt c2
  have hs2 := b1.size
  replace b1 := below_grown b1 g3 hg
  clear g3 c2
  have HL := Lib.hid hl
  clear hl
  have x1' : x ≤ 3 := by simpa using x1
  clear x1
  go_wp2_with fail
  refine (l1Once_any g zs 2 _ c3 (by omega)).mono ?_
  rintro e w4 ⟨b, rfl, c4, g4⟩
  replace b1 := below_grown b1 g4 hg
  replace ho := own_grown ho g4 (by omega)
  clear g4 c3
  cases b with
  | true =>
    go_wp2_with fail
    refine (l1Below_any g zs 65536 _ c4 (by omega)).mono ?_
    rintro e w5 ⟨y, rfl, y0, y1, c5, g5⟩
    replace b1 := below_grown b1 g5 hg
    replace ho := (own_grown ho g5 (by omega)).mono hs2
    have y1' : y ≤ 65535 := by simpa using y1
    clear g5 y1
    go_wp2
    go_ret2
    exact ⟨v, ys, y, rfl, hy, by have := HL.out; omega, wf_small _ (by omega) (by omega), ho, b1⟩
  | false =>
    go_wp2_with fail
    refine (l1Raw_any g zs _ c4).mono ?_
    rintro e w5 ⟨y, rfl, hyw, c5, g5⟩
    replace b1 := below_grown b1 g5 hg
    replace ho := (own_grown ho g5 (by omega)).mono hs2
    clear g5
    go_wp2
    go_ret2
    exact ⟨v, ys, y, rfl, hy, by have := HL.out; omega, hyw, ho, b1⟩

set_option maxHeartbeats 400000 in
/-- laws.same: two slices that read alike. -/
theorem same_same (a b : Option Addr) (n c1 c2 : Nat) (zs : List Int) (w : World) (h : RdI .u8 w a n c1 zs) (h' : RdI .u8 w b n c2 zs) (hn : n ≤ 140737488351232) :
    Calls Try.prog 18 #[.slice a n c1, .slice b n c2] w fun e w' =>
      e = .returned (.bool true) ∧ Below w.heap.size w w' := by
  have HR := Lib.hid h; clear h
  have HR' := Lib.hid h'; clear h'
  go_enter Try.func18, Try.ntmps18
  go_wp2
  go_loopw [5] (fun i wr => ∃ k : Nat, k ≤ n ∧ i = .int .i64 k ∧ Below w.heap.size w wr)
    (fun i _ => n - (intOf i).toNat)
  case atStart => exact ⟨0, Nat.zero_le _, rfl, Below.refl _ _⟩
  case round =>
    obtain ⟨k, hk, rfl, hB⟩ := hrel
    by_cases hlt : k < n
    · have HR0 := HR.out.2 (by omega)
      have HR0' := HR'.out.2 (by omega)
      obtain ⟨x, off, rfl, hc⟩ := HR0
      obtain ⟨x', off', rfl, hc'⟩ := HR0'
      have hck := hc k hlt
      have hck' := hc' k hlt
      have hbw : x < w.heap.size := World.block_lt_of_cell? w ⟨x, off + k, none⟩ hck
      have hbw' : x' < w.heap.size := World.block_lt_of_cell? w ⟨x', off' + k, none⟩ hck'
      rw [← hB.cell (p := ⟨x, off + k, none⟩) hbw] at hck
      rw [← hB.cell (p := ⟨x', off' + k, none⟩) hbw'] at hck'
      clear hc hc'
      have h0 : (0 : Int) ≤ k := by omega
      have h1 : (k : Int) < n := by omega
      go_wp2
      go_quiet (fail)
      go_wp2
      go_roundw
      case rel => exact ⟨k + 1, by omega, by go_num, below_drewN hB _⟩
      case measure => simp [intOf]; omega
    · go_wp2
      go_ret
      exact ⟨rfl, hB⟩


theorem get2_put2 (zs : List Int) (x : Int) (h : 0 ≤ x ∧ x ≤ 65535) : get2 (put2 zs x) zs.length = x ∧ has2 (put2 zs x) zs.length = true ∧ (put2 zs x).length = zs.length + 2 := by
  have e : put2 zs x = zs ++ [x / 256, x % 256] := by unfold put2; rw [if_pos h]
  have hl : (put2 zs x).length = zs.length + 2 := by rw [e]; simp
  have g0 : (put2 zs x).getD zs.length 0 = x / 256 := by rw [e]; simp [List.getD]
  have g1 : (put2 zs x).getD (zs.length + 1) 0 = x % 256 := by rw [e]; simp [List.getD]
  refine ⟨?_, ?_, hl⟩
  · unfold get2
    rw [if_pos (by omega), Int.toNat_natCast, g0, g1]
    omega
  · unfold has2; exact decide_eq_true (by omega)
theorem get2_not (zs : List Int) (x : Int) (h : ¬ (0 ≤ x ∧ x ≤ 65535)) : get2 (put2 zs x) zs.length = 0 ∧ has2 (put2 zs x) zs.length = false ∧ (put2 zs x).length = zs.length := by
  have e : put2 zs x = zs := by unfold put2; rw [if_neg h]
  refine ⟨?_, ?_, by rw [e]⟩
  · unfold get2; rw [e, if_neg (by omega)]
  · unfold has2; exact decide_eq_false (by rw [e]; omega)
theorem put2_take (zs : List Int) (x : Int) : (put2 zs x).take zs.length = zs := by
  unfold put2; split <;> simp
theorem pad_take (zs : List Int) (x : Int) : (pad zs x).take zs.length = zs := by
  unfold pad; split <;> simp
theorem pad_ge (zs : List Int) (x : Int) : zs.length ≤ (pad zs x).length := by
  unfold pad; split
  · simp
  · omega
theorem put2_ge (zs : List Int) (x : Int) : zs.length ≤ (put2 zs x).length := by
  unfold put2; split
  · simp
  · omega
theorem put2_bytes {zs : List Int} (x : Int) (h : ∀ z ∈ zs, 0 ≤ z ∧ z ≤ 255) : ∀ z ∈ put2 zs x, 0 ≤ z ∧ z ≤ 255 := by
  intro z hz
  unfold put2 at hz
  split at hz
  · rcases List.mem_append.1 hz with hz | hz
    · exact h z hz
    · simp at hz; omega
  · exact h z hz
theorem bytes_getD {zs : List Int} (h : ∀ z ∈ zs, 0 ≤ z ∧ z ≤ 255) (j : Nat) : 0 ≤ zs.getD j 0 ∧ zs.getD j 0 ≤ 255 := by
  by_cases hj : j < zs.length
  · have := h zs[j] (List.getElem_mem hj)
    simpa [List.getD, hj] using this
  · simp [List.getD, hj]
theorem RdI.take {k : IntKind} {w : World} {a : Option Addr} {n cap m : Nat} {zs : List Int} (h : RdI k w a n cap zs) (hm : m ≤ n) : RdI k w a m cap (zs.take m) := by
  refine ⟨⟨by rw [List.length_take, h.1.1]; omega, by have := h.1.2.1; omega, h.1.2.2.1, fun e => by have := h.1.2.2.2 e; omega⟩, fun h0 => ?_⟩
  obtain ⟨b, off, e, hc⟩ := h.2 (by omega)
  refine ⟨b, off, e, fun i hi => ?_⟩
  rw [hc i (by omega)]
  simp [List.getD, hi]

set_option maxHeartbeats 400000 in
theorem big_no (a : Option Addr) (n cap : Nat) (w : World) (h : n ≤ 1048576) : Calls Try.prog 10 #[.slice a n cap] w fun e w' => e = .returned (.bool false) ∧ w = w' := by
  go_enter Try.func10, Try.ntmps10
  go_wp2
  go_ret
  exact ⟨by simp; omega, rfl⟩
set_option maxHeartbeats 400000 in
theorem big_yes (a : Option Addr) (n cap : Nat) (w : World) (h : ¬ n ≤ 1048576) (hm : n ≤ maxLen) : Calls Try.prog 10 #[.slice a n cap] w fun e w' => e = .returned (.bool true) ∧ w = w' := by
  unfold maxLen at hm
  go_enter Try.func10, Try.ntmps10
  go_wp2
  go_ret
  exact ⟨by simp; omega, rfl⟩

set_option maxHeartbeats 1600000 in
set_option maxRecDepth 100000 in
theorem fnNums_walk (a : Option Addr) (n cap : Nat) (zs : List Int) (w : World) (h : RdI .u8 w a n cap zs) (hz : ∀ z ∈ zs, 0 ≤ z ∧ z ≤ 255) :
    Calls Try.prog 3 #[.slice a n cap] w fun e w' => e = .returned (.bool true) ∧ Below w.heap.size w w' := by
  have hln := h.1.1
  subst hln
  have HZ := Lib.hid hz
  clear hz
  by_cases hn : zs.length ≤ 1048576
  · go_enter Try.func3, Try.ntmps3
    go_wp2_with fail
    refine (big_no a _ cap _ hn).mono ?_
    rintro e w0 ⟨rfl, rfl⟩
    -- b, n
    go_wp2_with fail
    refine (drawPut2_any a cap zs _ h HZ.out hn).mono ?_
    rintro e w1 ⟨v1, bs, x, rfl, hb, hbl, hx, o1, b1⟩
    obtain ⟨a1, c1, rfl, r1⟩ := o1.rd
    have Hb := Lib.hid hb
    clear hb o1
    go_wp2_with fail
    refine (put2_any a1 _ c1 bs x _ r1 (by omega) hx).mono ?_
    rintro e w2 ⟨v2, rfl, o2, b2⟩
    obtain ⟨a2, c2, rfl, r2⟩ := o2.rd
    have B2 := b1.trans (b2.mono b1.size)
    replace r1 := r1.below b2
    have hxl := put2_le bs x
    have hxg := put2_ge bs x
    clear b1 b2 o2
    go_wp2_with fail
    refine (get2_any a2 _ c2 _ bs.length _ r2 (bytes_getD (put2_bytes x Hb.out)) (by omega) (wf_small _ (by omega) (by omega))).mono ?_
    rintro e w3 ⟨rfl, b3⟩
    have B3 := B2.trans (b3.mono B2.size)
    replace r1 := r1.below b3
    replace r2 := r2.below b3
    clear b3
    -- c, i
    go_wp2_with fail
    refine (drawGet2_any a cap zs _ (h.below B3) HZ.out hn).mono ?_
    rintro e w4 ⟨v4, cs, i, rfl, hc, hcl, hi, o4, b4⟩
    obtain ⟨a4, c4, rfl, r4⟩ := o4.rd
    have Hc := Lib.hid hc
    have B4 := B3.trans (b4.mono B3.size)
    replace r1 := r1.below b4
    replace r2 := r2.below b4
    clear hc o4 b4
    go_wp2_with fail
    refine (get2_any a4 _ c4 cs i _ r4 (bytes_getD Hc.out) (by omega) hi).mono ?_
    rintro e w5 ⟨rfl, b5⟩
    have B5 := B4.trans (b5.mono B4.size)
    replace r1 := r1.below b5
    replace r2 := r2.below b5
    replace r4 := r4.below b5
    clear b5
    go_wp2_with fail
    refine (sGet2_any a4 _ c4 cs i _ r4 (bytes_getD Hc.out) (by omega) hi).mono ?_
    rintro e w6 ⟨rfl, b6⟩
    have B6 := B5.trans (b6.mono B5.size)
    replace r1 := r1.below b6
    replace r2 := r2.below b6
    clear b6 r4
    -- p, k
    go_wp2_with fail
    refine (drawPad_any a cap zs _ (h.below B6) HZ.out hn).mono ?_
    rintro e w7 ⟨v7, ps, k, rfl, hp, hpl, hk, o7, b7⟩
    obtain ⟨a7, c7, rfl, r7⟩ := o7.rd
    have B7 := B6.trans (b7.mono B6.size)
    replace r1 := r1.below b7
    replace r2 := r2.below b7
    clear hp o7 b7
    go_wp2_with fail
    refine (pad_any a7 _ c7 ps k _ r7 (by omega) hk).mono ?_
    rintro e w8 ⟨v8, rfl, o8, b8⟩
    obtain ⟨a8, c8, rfl, r8⟩ := o8.rd
    have B8 := B7.trans (b8.mono B7.size)
    replace r1 := r1.below b8
    replace r2 := r2.below b8
    replace r7 := r7.below b8
    have hql := pad_le ps k
    have hqg := pad_ge ps k
    clear o8 b8
    -- x against the model's
    go_wp2_with fail
    refine (sPut2_any a1 _ c1 bs x _ r1 (by omega) hx).mono ?_
    rintro e w9 ⟨v9, rfl, o9, b9⟩
    obtain ⟨a9, c9, rfl, r9⟩ := o9.rd
    have B9 := B8.trans (b9.mono B8.size)
    replace r1 := r1.below b9
    replace r2 := r2.below b9
    replace r7 := r7.below b9
    replace r8 := r8.below b9
    clear o9 b9
    go_wp2_with fail
    refine (same_same a2 a9 _ c2 c9 _ _ r2 r9 (by omega)).mono ?_
    rintro e w10 ⟨rfl, b10⟩
    have B10 := B9.trans (b10.mono B9.size)
    replace r1 := r1.below b10
    replace r2 := r2.below b10
    replace r7 := r7.below b10
    replace r8 := r8.below b10
    clear b10 r9
    go_wp2_with fail
    refine (sPad_any a7 _ c7 ps k _ r7 (by omega) hk).mono ?_
    rintro e w11 ⟨v11, rfl, o11, b11⟩
    obtain ⟨a11, c11, rfl, r11⟩ := o11.rd
    have B11 := B10.trans (b11.mono B10.size)
    replace r1 := r1.below b11
    replace r2 := r2.below b11
    replace r7 := r7.below b11
    replace r8 := r8.below b11
    clear o11 b11
    go_wp2_with fail
    refine (same_same a8 a11 _ c8 c11 _ _ r8 r11 (by omega)).mono ?_
    rintro e w12 ⟨rfl, b12⟩
    have B12 := B11.trans (b12.mono B11.size)
    replace r1 := r1.below b12
    replace r2 := r2.below b12
    replace r7 := r7.below b12
    replace r8 := r8.below b12
    clear b12 r11
    have hc2 : bs.length ≤ c2 := by have := r2.1.2.1; omega
    have hc8 : ps.length ≤ c8 := by have := r8.1.2.1; omega
    have rt2 := r2.take (m := bs.length) (by omega)
    rw [put2_take] at rt2
    have rt8 := r8.take (m := ps.length) (by omega)
    rw [pad_take] at rt8
    clear r2 r8
    by_cases hr : 0 ≤ x ∧ x ≤ 65535
    · obtain ⟨e1, e2, e3⟩ := get2_put2 bs x hr
      obtain ⟨hr0, hr1⟩ := hr
      go_wp2_with fail
      refine (same_same a2 a1 bs.length c2 c1 bs _ rt2 r1 (by omega)).mono ?_
      rintro e w13 ⟨rfl, b13⟩
      have B13 := B12.trans (b13.mono B12.size)
      replace r1 := r1.below b13
      replace r7 := r7.below b13
      replace rt8 := rt8.below b13
      clear b13
      go_wp2_with fail
      refine (same_same a8 a7 ps.length c8 c7 ps _ rt8 r7 (by omega)).mono ?_
      rintro e w14 ⟨rfl, b14⟩
      have B14 := B13.trans (b14.mono B13.size)
      replace r1 := r1.below b14
      clear b14
      go_wp2_with fail
      refine (put2_any a1 _ c1 bs 0 _ r1 (by omega) (by decide)).mono ?_
      rintro e w15 ⟨v15, rfl, o15, b15⟩
      obtain ⟨a15, c15, rfl, r15⟩ := o15.rd
      have B15 := B14.trans (b15.mono B14.size)
      have E0 := (get2_put2 bs 0 (by omega)).2.2
      clear b15 o15
      go_wp2
      go_ret
      exact ⟨rfl, B15⟩
    · obtain ⟨e1, e2, e3⟩ := get2_not bs x hr
      by_cases hr0 : 0 ≤ x
      · have hr1 : ¬ x ≤ 65535 := fun h => hr ⟨hr0, h⟩
        have hd : decide (x ≤ 65535) = false := decide_eq_false hr1
        clear hr
        go_wp2_with fail
        refine (same_same a2 a1 bs.length c2 c1 bs _ rt2 r1 (by omega)).mono ?_
        rintro e w13 ⟨rfl, b13⟩
        have B13 := B12.trans (b13.mono B12.size)
        replace r1 := r1.below b13
        replace r7 := r7.below b13
        replace rt8 := rt8.below b13
        clear b13
        go_wp2_with fail
        refine (same_same a8 a7 ps.length c8 c7 ps _ rt8 r7 (by omega)).mono ?_
        rintro e w14 ⟨rfl, b14⟩
        have B14 := B13.trans (b14.mono B13.size)
        replace r1 := r1.below b14
        clear b14
        go_wp2_with fail
        refine (put2_any a1 _ c1 bs 0 _ r1 (by omega) (by decide)).mono ?_
        rintro e w15 ⟨v15, rfl, o15, b15⟩
        obtain ⟨a15, c15, rfl, r15⟩ := o15.rd
        have B15 := B14.trans (b15.mono B14.size)
        have E0 := (get2_put2 bs 0 (by omega)).2.2
        clear b15 o15
        go_wp2
        go_ret
        exact ⟨rfl, B15⟩
      · clear hr
        go_wp2_with fail
        refine (same_same a2 a1 bs.length c2 c1 bs _ rt2 r1 (by omega)).mono ?_
        rintro e w13 ⟨rfl, b13⟩
        have B13 := B12.trans (b13.mono B12.size)
        replace r1 := r1.below b13
        replace r7 := r7.below b13
        replace rt8 := rt8.below b13
        clear b13
        go_wp2_with fail
        refine (same_same a8 a7 ps.length c8 c7 ps _ rt8 r7 (by omega)).mono ?_
        rintro e w14 ⟨rfl, b14⟩
        have B14 := B13.trans (b14.mono B13.size)
        replace r1 := r1.below b14
        clear b14
        go_wp2_with fail
        refine (put2_any a1 _ c1 bs 0 _ r1 (by omega) (by decide)).mono ?_
        rintro e w15 ⟨v15, rfl, o15, b15⟩
        obtain ⟨a15, c15, rfl, r15⟩ := o15.rd
        have B15 := B14.trans (b15.mono B14.size)
        have E0 := (get2_put2 bs 0 (by omega)).2.2
        clear b15 o15
        go_wp2
        go_ret
        exact ⟨rfl, B15⟩
  · go_enter Try.func3, Try.ntmps3
    go_wp2_with fail
    refine (big_yes a _ cap _ hn (by have := h.1.2.1; have := h.1.2.2.1; omega)).mono ?_
    rintro e w0 ⟨rfl, rfl⟩
    go_wp2
    go_ret
    exact ⟨rfl, Below.refl _ _⟩
end Go.Proofs.Ytpjboijmajlocaa
