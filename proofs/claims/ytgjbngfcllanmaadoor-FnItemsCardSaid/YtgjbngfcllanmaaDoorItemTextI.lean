/- The program's text of an item. -/
import Derived.Test.YtgjbngfcllanmaaDoorItemText
import Derived.Test.YtgjbngfcllanmaaDoorItemI
namespace Go.Proofs.YtgjbngfcllanmaaDoor
open Go.RowKit

theorem numI_any (n : Int) (h0 : -9223372036854775808 ≤ n) (h1 : n ≤ 9223372036854775807) (w : World) (hv : Lib.TabIs Tryd.prog w "internal/strconv.uint64pow10" .u64 Lib.pow10Tab) : Calls Tryd.prog 45 #[.int .i64 n] w fun e w' => e = .returned (.string (numS n)) ∧ Below w.heap.size w w' :=
  numText_pow n (by simp [Lit.wf, IntKind.min, IntKind.max, IntKind.signed, IntKind.bits]; omega) w hv

set_option maxHeartbeats 1600000 in
set_option maxRecDepth 100000 in
theorem pointI_any (x y : Int) (hx : 0 ≤ x ∧ x ≤ 255) (hy : 0 ≤ y ∧ y ≤ 255) (w : World) (hv : Lib.TabIs Tryd.prog w "internal/strconv.uint64pow10" .u64 Lib.pow10Tab) : Calls Tryd.prog 46 #[.int .i64 x, .int .i64 y] w fun e w' =>
    e = .returned (.string (numS x ++ ⟨#[44]⟩ ++ numS y)) ∧ Below w.heap.size w w' := by
  have HV := Lib.hid hv
  clear hv
  have L1 := numS_len x (by omega) (by omega)
  have L2 := numS_len y (by omega) (by omega)
  have C1 := Lib.hid (numI_any x (by omega) (by omega))
  have C2 := Lib.hid (numI_any y (by omega) (by omega))
  clear hx hy
  generalize numS x = s1 at *
  generalize numS y = s2 at *
  go_enter Tryd.func46, Tryd.ntmps46
  go_wp2_with fail
  refine (C1.out _ HV.out).mono ?_
  rintro e w1 ⟨rfl, hb⟩
  go_wp2_with fail
  refine (C2.out _ (var_kept HV.out hb)).mono ?_
  rintro e w2 ⟨rfl, hb2⟩
  have B := hb.trans (hb2.mono hb.size)
  clear hb hb2
  go_wp2
  go_ret
  exact ⟨rfl, B⟩

set_option maxHeartbeats 1600000 in
set_option maxRecDepth 100000 in
theorem iItemText_any (i x0 y0 x1 y1 : Int) (w : World) (hv : Lib.TabIs Tryd.prog w "internal/strconv.uint64pow10" .u64 Lib.pow10Tab) : Calls Tryd.prog 27 #[.agg #[.int .i64 i, .int .i64 x0, .int .i64 y0, .int .i64 x1, .int .i64 y1]] w fun e w' =>
    e = .returned (.string (textV i x0 y0 x1 y1)) ∧ Below w.heap.size w w' := by
  have K := Lib.hid (blk_new w #[.int .i64 i, .int .i64 x0, .int .i64 y0, .int .i64 x1, .int .i64 y1] 30)
  have HV := Lib.hid hv
  clear hv
  have CO := iItemOk_any i x0 y0 x1 y1
  cases h : itOk i x0 y0 x1 y1 with
  | true =>
    have hr : Hid (textV i x0 y0 x1 y1 = numS i ++ ⟨#[58, 32]⟩ ++ (numS x0 ++ ⟨#[44]⟩ ++ numS y0) ++ ⟨#[32]⟩ ++ (numS x1 ++ ⟨#[44]⟩ ++ numS y1)) := by
      refine (if_pos h).trans ?_
      simp only [ByteArray.append_assoc]
    obtain ⟨⟨i0, i1⟩, ⟨a0, a1⟩, ⟨b0, b1⟩, ⟨c0, c1⟩, d0, d1⟩ := itOk_in h
    have L0 := numS_len i (by omega) (by omega)
    have L1 : (numS x0 ++ ⟨#[44]⟩ ++ numS y0).size ≤ 43 := by
      have := numS_len x0 (by omega) (by omega)
      have := numS_len y0 (by omega) (by omega)
      simp only [ByteArray.size_append]
      show _ + 1 + _ ≤ 43
      omega
    have L2 : (numS x1 ++ ⟨#[44]⟩ ++ numS y1).size ≤ 43 := by
      have := numS_len x1 (by omega) (by omega)
      have := numS_len y1 (by omega) (by omega)
      simp only [ByteArray.size_append]
      show _ + 1 + _ ≤ 43
      omega
    have C0 := Lib.hid (numI_any i (by omega) (by omega))
    have C1 := Lib.hid (pointI_any x0 y0 ⟨a0, a1⟩ ⟨b0, b1⟩)
    have C2 := Lib.hid (pointI_any x1 y1 ⟨c0, c1⟩ ⟨d0, d1⟩)
    rw [h] at CO
    replace CO := Lib.hid CO
    clear h i0 i1 a0 a1 b0 b1 c0 c1 d0 d1
    generalize numS i = s0 at *
    generalize numS x0 ++ ⟨#[44]⟩ ++ numS y0 = s1 at *
    generalize numS x1 ++ ⟨#[44]⟩ ++ numS y1 = s2 at *
    go_enter Tryd.func27, Tryd.ntmps27
    go_wp2_with fail
    refine (CO.out _).mono ?_
    rintro e w1 ⟨rfl, hb⟩
    replace K := Lib.hid (below_keep hb (by simp) _ _ K.out)
    have B := (new_below w _).trans (hb.mono (show w.heap.size ≤ _ by simp))
    go_wp2_with fail
    have HV1 := Lib.hid (var_kept HV.out B)
    have D0 := fun W hW => C0.out W (var_kept HV1.out hW)
    have D1 := fun W hW => C1.out W (var_kept HV1.out hW)
    have D2 := fun W hW => C2.out W (var_kept HV1.out hW)
    have q0 := cellq (w := w1) (b := w.heap.size) (j := 0) (v := .int .i64 i) (K.out.1 0)
    have q1 := cellq (w := w1) (b := w.heap.size) (j := 1) (v := .int .i64 x0) (K.out.1 1)
    have q2 := cellq (w := w1) (b := w.heap.size) (j := 2) (v := .int .i64 y0) (K.out.1 2)
    have q3 := cellq (w := w1) (b := w.heap.size) (j := 3) (v := .int .i64 x1) (K.out.1 3)
    have q4 := cellq (w := w1) (b := w.heap.size) (j := 4) (v := .int .i64 y1) (K.out.1 4)
    refine wp_region_quiet_below (by kernel_rfl) (by kernel_rfl) ?_
    repeat (go_big_quiet_step (first | (go_at_call 45; with_reducible exact callq D0 rfl _ _) | (go_at_call 46; first | with_reducible exact callq D1 rfl _ _ | with_reducible exact callq D2 rfl _ _)))
    refine wpQuiet_nil (quiet_end fun W hW => ?_)
    have s1 := hb.size
    simp at s1
    clear q0 q1 q2 q3 q4 D0 D1 D2 HV1
    go_wp2
    go_ret
    exact ⟨ret_str hr.out.symm, B.trans (hW.mono (by omega))⟩
  | false =>
    have hr : Hid (textV i x0 y0 x1 y1 = ⟨#[]⟩) := if_neg (by rw [h]; exact Bool.false_ne_true)
    rw [h] at CO
    replace CO := Lib.hid CO
    clear h
    go_enter Tryd.func27, Tryd.ntmps27
    go_wp2_with fail
    refine (CO.out _).mono ?_
    rintro e w1 ⟨rfl, hb⟩
    have B := (new_below w _).trans (hb.mono (show w.heap.size ≤ _ by simp))
    go_wp2
    go_ret
    exact ⟨ret_str hr.out.symm, B⟩
end Go.Proofs.YtgjbngfcllanmaaDoor
