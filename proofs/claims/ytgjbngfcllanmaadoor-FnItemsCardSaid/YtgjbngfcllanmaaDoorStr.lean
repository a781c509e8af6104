/- NumText and ParseNum, the program's and the model's, each by its contract. -/
import Derived.Test.YtgjbngfcllanmaaDoorBase
import Derived.Test.YtgjbngfcllanmaaDoorIn
import Derived.Test.YtgjbngfcllanmaaDoorText
import Derived.Test.YtgjbngfcllanmaaDoorShelf
import Derived.Shelf.Strconv.Itoa3
import Derived.Shelf.Strconv.ErrVarAll
namespace Go.Proofs.YtgjbngfcllanmaaDoor
open Go.RowKit

/-- The library's variables that these roads read hold what their initialisers lay. -/
structure Vars (w : World) : Prop where
  pow : Lib.TabIs Tryd.prog w "internal/strconv.uint64pow10" .u64 Lib.pow10Tab
  syn : ∃ tp p, w.var? Tryd.prog "strconv.ErrSyntax" = some #[.iface tp p]
  rng : ∃ tp p, w.var? Tryd.prog "strconv.ErrRange" = some #[.iface tp p]

theorem var_kept {n : String} {cs : Array Value} {w w' : World} (h : w.var? Tryd.prog n = some cs) (hB : Below w.heap.size w w') : w'.var? Tryd.prog n = some cs := by
  unfold World.var? at h ⊢
  cases hg : Tryd.prog.globalNamed n with
  | none => rw [hg] at h; cases h
  | some g =>
    rw [hg] at h
    simp only [Option.bind_some] at h ⊢
    by_cases hl : g < w.heap.size
    · rw [hB.block g hl]; exact h
    · rw [Array.getElem?_eq_none (by omega)] at h; cases h
theorem Vars.below {w w' : World} (h : Vars w) (hB : Below w.heap.size w w') : Vars w' :=
  ⟨var_kept h.pow hB, let ⟨a, b, c⟩ := h.syn; ⟨a, b, var_kept c hB⟩, let ⟨a, b, c⟩ := h.rng; ⟨a, b, var_kept c hB⟩⟩

theorem grow_below (w : World) (k : Nat) (os : Array Obj) : Below w.heap.size w (Go.Sort.grow (w.drewN k) os) := by
  refine ⟨rfl, rfl, rfl, ?_, fun i hi => ?_⟩
  · show w.heap.size ≤ (w.heap ++ os).size
    rw [Array.size_append]; omega
  · show (w.heap ++ os)[i]? = _
    rw [Array.getElem?_append, if_pos hi]

set_option maxHeartbeats 400000 in
theorem numText_pow (n : Int) (hn : (Lit.int .i64 n).wf = true) (w : World) (hv : Lib.TabIs Tryd.prog w "internal/strconv.uint64pow10" .u64 Lib.pow10Tab) :
    Calls Tryd.prog 45 #[.int .i64 n] w fun e w' => e = .returned (.string ⟨(Lib.itoa n).toArray⟩) ∧ Below w.heap.size w w' := by
  obtain ⟨l0, u0⟩ := bounds_i64 hn
  have hp := Lib.hid hv
  clear hv hn
  go_enter Tryd.func45, Tryd.ntmps45
  go_wp2_with fail
  refine (Any.strconv_Itoa Tryd.laysM171 n l0 u0 w hp.out).mono ?_
  rintro e w1 ⟨rfl, k, os, rfl⟩
  go_wp2
  go_ret
  exact ⟨rfl, grow_below _ _ _⟩
theorem numText_any (n : Int) (hn : (Lit.int .i64 n).wf = true) (w : World) (hv : Vars w) :
    Calls Tryd.prog 45 #[.int .i64 n] w fun e w' => e = .returned (.string ⟨(Lib.itoa n).toArray⟩) ∧ Below w.heap.size w w' := numText_pow n hn w hv.pow

/-- What ParseNum answers. -/
def Num (l : List UInt8) (w : World) (e : Ending) (w' : World) : Prop := e = .returned (.tuple #[.int .i64 (pnum l), .bool (isNum l)]) ∧ Below w.heap.size w w'
theorem num_no {l : List UInt8} {w w' : World} (h : isNum l = false) (hB : Below w.heap.size w w') : Num l w (.returned (.tuple #[.int .i64 0, .bool false])) w' := ⟨by rw [pnum_not h, h], hB⟩
theorem num_yes {l : List UInt8} {w w' : World} {v : Int} (h : isNum l = true ∧ pnum l = v) (hB : Below w.heap.size w w') : Num l w (.returned (.tuple #[.int .i64 v, .bool true])) w' := ⟨by rw [h.1, h.2], hB⟩

/-! ### the model -/
theorem tdiv_neg_ten (m : Nat) : (-(m : Int)).tdiv 10 = -((m / 10 : Nat) : Int) := by rw [Int.neg_tdiv, Int.tdiv_eq_ediv_of_nonneg (by omega)]; rfl
theorem tmod_neg_ten (m : Nat) : (-(m : Int)).tmod 10 = -((m % 10 : Nat) : Int) := by rw [Int.neg_tmod, Int.tmod_eq_emod_of_nonneg (by omega)]; rfl

theorem str_cons (c : UInt8) (l : List UInt8) : Value.string ((⟨#[c]⟩ : ByteArray) ++ (⟨l.toArray⟩ : ByteArray)) = Value.string ⟨(c :: l).toArray⟩ := by
  congr 1

set_option maxHeartbeats 800000 in
set_option maxRecDepth 100000 in
theorem sNumText_pos (n : Nat) (h0 : 0 < n) (hn : (n : Int) ≤ 9223372036854775807) (w : World) :
    Calls Tryd.prog 47 #[.int .i64 n] w fun e w' => e = .returned (.string ⟨(digs n).toArray⟩) ∧ Below w.heap.size w w' := by
  have hz : ((n : Int) == 0) = false := by rw [beq_eq_false_iff_ne]; omega
  have hn0 : decide ((n : Int) < 0) = false := decide_eq_false (by omega)
  go_enter Tryd.func47, Tryd.ntmps47
  go_wp2
  go_loopw [3, 4, 5] (fun s x d wr => ∃ (m : Nat) (l : List UInt8), m ≤ n ∧ x = .int .i64 m ∧ s = .string ⟨l.toArray⟩ ∧ Hid (digs m ++ l = digs n) ∧ l.length ≤ 20 ∧ Below w.heap.size w wr)
    (fun _ x _ _ => (intOf x).toNat)
  case atStart => exact ⟨n, [], Nat.le_refl _, rfl, rfl, by simp [Hid], by simp, Below.refl _ _⟩
  case round =>
    obtain ⟨m, l, hm, rfl, rfl, hl, hl2, hB⟩ := hrel
    by_cases hm0 : 0 < m
    · have hne : ((m : Int) != 0) = true := by rw [bne_iff_ne]; omega
      obtain ⟨c, hc⟩ : ∃ c : UInt8, c = UInt8.ofNat (48 + m % 10) := ⟨_, rfl⟩
      have hcn : ((c.toNat : Nat) : Int) = 48 + (m : Int) % 10 := by rw [hc, UInt8.toNat_ofNat']; omega
      have hconv := run_convert_bytes_back (P := Tryd.prog) (wr.alloc (.cells #[.int .u8 (48 + (m : Int) % 10)] 5)) 22 9 5 ⟨wr.heap.size, 0, none⟩ 1 [c] Tryd.underlying22 Tryd.underlying5 Tryd.underlying9 (by
        intro j hj
        match j, hj with
        | 0, _ => simp [Addr.add, hcn])
      simp only [List.length_singleton] at hconv
      have hs1 : (⟨[c].toArray⟩ : ByteArray).size + (⟨l.toArray⟩ : ByteArray).size ≤ 9223372036854775807 := by show 1 + l.length ≤ _; omega
      have hcat := run_string_add_sum (P := Tryd.prog) (w := wr.alloc (.cells #[.int .u8 (48 + (m : Int) % 10)] 5)) ⟨[c].toArray⟩ ⟨l.toArray⟩ hs1
      have HC := Lib.hid hc
      have HS := Lib.hid hs1
      clear hc hcn hs1
      go_wp2
      go_roundw
      case rel =>
        refine ⟨m / 10, c :: l, by omega, by go_num, str_cons c l, ?_, ?_, hB.alloc hB.size _⟩
        · show digs (m / 10) ++ c :: l = digs n
          rw [← hl.out, digs_step m hm0, HC.out]
          simp
        · have h1 := digs_length n (by omega)
          have h2 := congrArg List.length hl.out
          rw [digs_step m hm0] at h2
          simp at h2 ⊢
          omega
      case measure => simp [intOf]; omega
    · obtain rfl : m = 0 := by omega
      have he : (((0 : Nat) : Int) != 0) = false := rfl
      go_wp2
      go_ret
      refine ⟨?_, hB⟩
      have := hl.out
      rw [digs_zero, List.nil_append] at this
      rw [← this]
      rfl

set_option maxHeartbeats 1600000 in
set_option maxRecDepth 100000 in
theorem sNumText_neg (n : Nat) (h0 : 0 < n) (hn : (n : Int) ≤ 9223372036854775808) (w : World) :
    Calls Tryd.prog 47 #[.int .i64 (-(n : Int))] w fun e w' => e = .returned (.string ⟨(45 :: digs n).toArray⟩) ∧ Below w.heap.size w w' := by
  have hz : (-(n : Int) == 0) = false := by rw [beq_eq_false_iff_ne]; omega
  have hn0 : decide (-(n : Int) < 0) = true := decide_eq_true (by omega)
  go_enter Tryd.func47, Tryd.ntmps47
  go_wp2
  go_loopw [3, 4, 5] (fun s x d wr => ∃ (m : Nat) (l : List UInt8), m ≤ n ∧ x = .int .i64 (-(m : Int)) ∧ s = .string ⟨l.toArray⟩ ∧ Hid (digs m ++ l = digs n) ∧ l.length ≤ 20 ∧ Below w.heap.size w wr)
    (fun _ x _ _ => (-(intOf x)).toNat)
  case atStart => exact ⟨n, [], Nat.le_refl _, rfl, rfl, by simp [Hid], by simp, Below.refl _ _⟩
  case round =>
    obtain ⟨m, l, hm, rfl, rfl, hl, hl2, hB⟩ := hrel
    by_cases hm0 : 0 < m
    · have hne : (-(m : Int) != 0) = true := by rw [bne_iff_ne]; omega
      have eq := tdiv_neg_ten m
      have er := tmod_neg_ten m
      by_cases hd : 0 < (m : Int) % 10
      · have h48 : 48 + (m : Int) % 10 ≤ 57 := by omega
        obtain ⟨c, hc⟩ : ∃ c : UInt8, c = UInt8.ofNat (48 + m % 10) := ⟨_, rfl⟩
        have hcn : ((c.toNat : Nat) : Int) = 48 + (m : Int) % 10 := by rw [hc, UInt8.toNat_ofNat']; omega
        have hconv := run_convert_bytes_back (P := Tryd.prog) (wr.alloc (.cells #[.int .u8 (48 + (m : Int) % 10)] 5)) 22 9 5 ⟨wr.heap.size, 0, none⟩ 1 [c] Tryd.underlying22 Tryd.underlying5 Tryd.underlying9 (by
          intro j hj
          match j, hj with
          | 0, _ => simp [Addr.add, hcn])
        simp only [List.length_singleton] at hconv
        have hs1 : (⟨[c].toArray⟩ : ByteArray).size + (⟨l.toArray⟩ : ByteArray).size ≤ 9223372036854775807 := by show 1 + l.length ≤ _; omega
        have hcat := run_string_add_sum (P := Tryd.prog) (w := wr.alloc (.cells #[.int .u8 (48 + (m : Int) % 10)] 5)) ⟨[c].toArray⟩ ⟨l.toArray⟩ hs1
        have HC := Lib.hid hc
        have HS := Lib.hid hs1
        clear hc hcn hs1
        go_wp2
        go_roundw
        case rel =>
          refine ⟨m / 10, c :: l, by omega, by go_num, str_cons c l, ?_, ?_, hB.alloc hB.size _⟩
          · show digs (m / 10) ++ c :: l = digs n
            rw [← hl.out, digs_step m hm0, HC.out]
            simp
          · have h1 := digs_length n (by omega)
            have h2 := congrArg List.length hl.out
            rw [digs_step m hm0] at h2
            simp at h2 ⊢
            omega
        case measure => simp [intOf]; omega
      · have em : m % 10 = 0 := by omega
        have HM := Lib.hid em
        obtain ⟨c, hc⟩ : ∃ c : UInt8, c = UInt8.ofNat (48 + m % 10) := ⟨_, rfl⟩
        rw [em] at er
        have hcn : ((c.toNat : Nat) : Int) = 48 := by rw [hc, UInt8.toNat_ofNat']; omega
        have hconv := run_convert_bytes_back (P := Tryd.prog) (wr.alloc (.cells #[.int .u8 (48)] 5)) 22 9 5 ⟨wr.heap.size, 0, none⟩ 1 [c] Tryd.underlying22 Tryd.underlying5 Tryd.underlying9 (by
          intro j hj
          match j, hj with
          | 0, _ => simp [Addr.add, hcn])
        simp only [List.length_singleton] at hconv
        have hs1 : (⟨[c].toArray⟩ : ByteArray).size + (⟨l.toArray⟩ : ByteArray).size ≤ 9223372036854775807 := by show 1 + l.length ≤ _; omega
        have hcat := run_string_add_sum (P := Tryd.prog) (w := wr.alloc (.cells #[.int .u8 (48)] 5)) ⟨[c].toArray⟩ ⟨l.toArray⟩ hs1
        have HC := Lib.hid hc
        have HS := Lib.hid hs1
        clear hc hcn hs1
        go_wp2
        go_roundw
        case rel =>
          refine ⟨m / 10, c :: l, by omega, by go_num, str_cons c l, ?_, ?_, hB.alloc hB.size _⟩
          · show digs (m / 10) ++ c :: l = digs n
            rw [← hl.out, digs_step m hm0, HC.out]
            simp
          · have h1 := digs_length n (by omega)
            have h2 := congrArg List.length hl.out
            rw [digs_step m hm0] at h2
            simp at h2 ⊢
            omega
        case measure => simp [intOf]; omega
    · obtain rfl : m = 0 := by omega
      have he : (-((0 : Nat) : Int) != 0) = false := rfl
      have hs1 : (⟨[45].toArray⟩ : ByteArray).size + (⟨l.toArray⟩ : ByteArray).size ≤ 9223372036854775807 := by show 1 + l.length ≤ _; omega
      have hcat := run_string_add_sum (P := Tryd.prog) (w := wr) ⟨[45].toArray⟩ ⟨l.toArray⟩ hs1
      have HS := Lib.hid hs1
      clear hs1
      go_wp2
      go_ret
      refine ⟨?_, hB⟩
      have := hl.out
      rw [digs_zero, List.nil_append] at this
      rw [← this]
      exact congrArg Ending.returned (str_cons 45 l)

set_option maxHeartbeats 400000 in
theorem sNumText_zero (w : World) : Calls Tryd.prog 47 #[.int .i64 0] w fun e w' => e = .returned (.string ⟨#[48]⟩) ∧ w = w' := by
  go_enter Tryd.func47, Tryd.ntmps47
  go_wp2
  go_ret
  exact ⟨rfl, rfl⟩

/-- The model's NumText, at every int. -/
theorem sNumText_any (n : Int) (hn : (Lit.int .i64 n).wf = true) (w : World) :
    Calls Tryd.prog 47 #[.int .i64 n] w fun e w' => e = .returned (.string ⟨(Lib.itoa n).toArray⟩) ∧ Below w.heap.size w w' := by
  obtain ⟨l0, u0⟩ := bounds_i64 hn
  by_cases h : 0 < n
  · obtain ⟨m, rfl⟩ := Int.eq_ofNat_of_zero_le (by omega : 0 ≤ n)
    refine (sNumText_pos m (by omega) (by omega) w).mono fun e w' ⟨he, hw⟩ => ⟨?_, hw⟩
    rw [he, itoa_nat _ (by omega), Int.toNat_natCast, digs_dec _ (by omega)]
  · by_cases h' : n < 0
    · obtain ⟨m, hm⟩ := Int.eq_ofNat_of_zero_le (by omega : 0 ≤ -n)
      obtain rfl : n = -(m : Int) := by omega
      refine (sNumText_neg m (by omega) (by omega) w).mono fun e w' ⟨he, hw⟩ => ⟨?_, hw⟩
      rw [he]
      have : Lib.itoa (-(m : Int)) = 45 :: digs m := by
        unfold Lib.itoa
        rw [if_pos (by omega), Int.natAbs_neg, Int.natAbs_natCast, digs_dec _ (by omega)]
      rw [this]
    · obtain rfl : n = 0 := by omega
      refine (sNumText_zero w).mono fun e w' ⟨he, hw⟩ => ⟨?_, hw ▸ Below.refl _ _⟩
      rw [he, itoa_nat _ (by omega), Int.toNat_zero, Lib.decDigits_one (by omega)]
      rfl

theorem take_snoc (s : ByteArray) (k : Nat) (h : k < s.size) : s.data.toList.take (k + 1) = s.data.toList.take k ++ [s[k]] := by
  rw [List.take_succ_eq_append_getElem (by simpa using h)]; rfl
theorem size_list (s : ByteArray) : s.data.toList.length = s.size := by simp
theorem isNum_len {l : List UInt8} (h : l.length = 0 ∨ 5 < l.length) : isNum l = false := by
  unfold isNum
  rw [decide_eq_false]
  · rfl
  · rintro ⟨h1, h2, _⟩
    rcases h with h | h
    · exact h1 (List.eq_nil_of_length_eq_zero h)
    · omega
theorem isNum_lead {l : List UInt8} (h : 1 < l.length) (h2 : l.head? = some 48) : isNum l = false := by
  unfold isNum
  rw [decide_eq_false]
  · rfl
  · rintro ⟨_, _, h3⟩
    exact h3 ⟨h, h2⟩
theorem isNum_bad {l : List UInt8} {c : UInt8} (h : c ∈ l) (h2 : isDig c = false) : isNum l = false := by
  unfold isNum
  have : l.all isDig = false := by
    rw [List.all_eq_false]
    exact ⟨c, h, by simp [h2]⟩
  rw [this, Bool.and_false]
theorem isNum_good {l : List UInt8} (h1 : l.length ≠ 0) (h2 : l.length ≤ 5) (h3 : ¬ (1 < l.length ∧ l.head? = some 48)) (h4 : l.all isDig = true) : isNum l = true := by
  unfold isNum
  rw [h4, Bool.and_true, decide_eq_true_eq]
  exact ⟨fun e => h1 (by rw [e]; rfl), h2, h3⟩
theorem head_str (s : ByteArray) (h : 0 < s.size) : s.data.toList.head? = some s[0] := by
  rw [List.head?_eq_getElem?, List.getElem?_eq_getElem (by simpa using h)]; rfl

end Go.Proofs.YtgjbngfcllanmaaDoor
