/- The model's text of an item. -/
import Derived.Test.YtgjbngfcllanmaaDoorItem
import Derived.Test.YtgjbngfcllanmaaDoorStr
import Derived.Test.YtgjbngfcllanmaaDoorQuiet
import Derived.Lib.ItoaLen
namespace Go.Proofs.YtgjbngfcllanmaaDoor
open Go.RowKit

theorem ret_str {a b : ByteArray} (h : a = b) : Ending.returned (.string a) = .returned (.string b) := by rw [h]
def numS (n : Int) : ByteArray := ⟨(Lib.itoa n).toArray⟩
theorem numS_len (n : Int) (h0 : -9223372036854775808 ≤ n) (h1 : n ≤ 9223372036854775807) : (numS n).size ≤ 21 := by
  have := Lib.itoa_length_le n h0 h1
  show (Lib.itoa n).toArray.size ≤ 21
  simpa using this
theorem itOk_in {i x0 y0 x1 y1 : Int} (h : itOk i x0 y0 x1 y1 = true) : (1 ≤ i ∧ i ≤ 999) ∧ (0 ≤ x0 ∧ x0 ≤ 255) ∧ (0 ≤ y0 ∧ y0 ≤ 255) ∧ (0 ≤ x1 ∧ x1 ≤ 255) ∧ 0 ≤ y1 ∧ y1 ≤ 255 := by
  unfold itOk at h
  rw [Bool.and_eq_true, okB_iff] at h
  have := of_decide_eq_true h.1
  omega
/-- The text of an item; empty for one that is not valid. -/
def textV (i x0 y0 x1 y1 : Int) : ByteArray := if itOk i x0 y0 x1 y1 = true then numS i ++ ⟨#[58, 32]⟩ ++ numS x0 ++ ⟨#[44]⟩ ++ numS y0 ++ ⟨#[32]⟩ ++ numS x1 ++ ⟨#[44]⟩ ++ numS y1 else ⟨#[]⟩
theorem numS_any (n : Int) (h0 : -9223372036854775808 ≤ n) (h1 : n ≤ 9223372036854775807) (w : World) : Calls Tryd.prog 47 #[.int .i64 n] w fun e w' => e = .returned (.string (numS n)) ∧ Below w.heap.size w w' :=
  sNumText_any n (by simp [Lit.wf, IntKind.min, IntKind.max, IntKind.signed, IntKind.bits]; omega) w

set_option maxHeartbeats 1600000 in
set_option maxRecDepth 100000 in
theorem sItemText_any (i x0 y0 x1 y1 : Int) (w : World) : Calls Tryd.prog 28 #[.agg #[.int .i64 i, .int .i64 x0, .int .i64 y0, .int .i64 x1, .int .i64 y1]] w fun e w' =>
    e = .returned (.string (textV i x0 y0 x1 y1)) ∧ Below w.heap.size w w' := by
  have K := Lib.hid (blk_new w #[.int .i64 i, .int .i64 x0, .int .i64 y0, .int .i64 x1, .int .i64 y1] 30)
  have CO := sItemOk_any i x0 y0 x1 y1
  cases h : itOk i x0 y0 x1 y1 with
  | true =>
    have hr : Hid (textV i x0 y0 x1 y1 = numS i ++ ⟨#[58, 32]⟩ ++ numS x0 ++ ⟨#[44]⟩ ++ numS y0 ++ ⟨#[32]⟩ ++ numS x1 ++ ⟨#[44]⟩ ++ numS y1) := if_pos h
    obtain ⟨⟨i0, i1⟩, ⟨a0, a1⟩, ⟨b0, b1⟩, ⟨c0, c1⟩, d0, d1⟩ := itOk_in h
    have L0 := numS_len i (by omega) (by omega)
    have L1 := numS_len x0 (by omega) (by omega)
    have L2 := numS_len y0 (by omega) (by omega)
    have L3 := numS_len x1 (by omega) (by omega)
    have L4 := numS_len y1 (by omega) (by omega)
    have C0 := Lib.hid (numS_any i (by omega) (by omega))
    have C1 := Lib.hid (numS_any x0 (by omega) (by omega))
    have C2 := Lib.hid (numS_any y0 (by omega) (by omega))
    have C3 := Lib.hid (numS_any x1 (by omega) (by omega))
    have C4 := Lib.hid (numS_any y1 (by omega) (by omega))
    rw [h] at CO
    replace CO := Lib.hid CO
    clear h i0 i1 a0 a1 b0 b1 c0 c1 d0 d1
    generalize numS i = s0 at *
    generalize numS x0 = s1 at *
    generalize numS y0 = s2 at *
    generalize numS x1 = s3 at *
    generalize numS y1 = s4 at *
    go_enter Tryd.func28, Tryd.ntmps28
    go_wp2_with fail
    refine (CO.out _).mono ?_
    rintro e w1 ⟨rfl, hb⟩
    replace K := Lib.hid (below_keep hb (by simp) _ _ K.out)
    have B := (new_below w _).trans (hb.mono (show w.heap.size ≤ _ by simp))
    go_wp2_with fail
    have q0 := cellq (w := w1) (b := w.heap.size) (j := 0) (v := .int .i64 i) (K.out.1 0)
    have q1 := cellq (w := w1) (b := w.heap.size) (j := 1) (v := .int .i64 x0) (K.out.1 1)
    have q2 := cellq (w := w1) (b := w.heap.size) (j := 2) (v := .int .i64 y0) (K.out.1 2)
    have q3 := cellq (w := w1) (b := w.heap.size) (j := 3) (v := .int .i64 x1) (K.out.1 3)
    have q4 := cellq (w := w1) (b := w.heap.size) (j := 4) (v := .int .i64 y1) (K.out.1 4)
    refine wp_region_quiet_below (by kernel_rfl) (by kernel_rfl) ?_
    repeat (go_big_quiet_step (first | (go_at_call 47; first | with_reducible exact callr (C0.out _) | with_reducible exact callr (C1.out _) | with_reducible exact callr (C2.out _) | with_reducible exact callr (C3.out _) | with_reducible exact callr (C4.out _))))
    refine wpQuiet_nil (quiet_end fun W hW => ?_)
    have s1 := hb.size
    simp at s1
    clear q0 q1 q2 q3 q4
    go_wp2
    go_ret
    exact ⟨ret_str hr.out.symm, B.trans (hW.mono (by omega))⟩
  | false =>
    have hr : Hid (textV i x0 y0 x1 y1 = ⟨#[]⟩) := if_neg (by rw [h]; exact Bool.false_ne_true)
    rw [h] at CO
    replace CO := Lib.hid CO
    clear h
    go_enter Tryd.func28, Tryd.ntmps28
    go_wp2_with fail
    refine (CO.out _).mono ?_
    rintro e w1 ⟨rfl, hb⟩
    have B := (new_below w _).trans (hb.mono (show w.heap.size ≤ _ by simp))
    go_wp2
    go_ret
    exact ⟨ret_str hr.out.symm, B⟩
end Go.Proofs.YtgjbngfcllanmaaDoor
