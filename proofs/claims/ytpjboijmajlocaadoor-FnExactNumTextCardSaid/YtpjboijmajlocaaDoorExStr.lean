/- The exact laws of NumText and ParseNum: each walked from its callees' contracts. -/
import Derived.Test.YtpjboijmajlocaaDoorStr
namespace Go.Proofs.YtpjboijmajlocaaDoor
open Go.RowKit

set_option maxHeartbeats 800000 in
theorem exNumText_walk (n : Int) (hn : (Lit.int .i64 n).wf = true) (w : World) (hv : Lib.TabIs Tryd.prog w "internal/strconv.uint64pow10" .u64 Lib.pow10Tab) :
    Calls Tryd.prog 4 #[.int .i64 n] w fun e w' => e = .returned (.bool true) ∧ Below w.heap.size w w' := by
  have HV := Lib.hid hv
  clear hv
  go_enter Tryd.func4, Tryd.ntmps4
  go_wp2_with fail
  refine (sNumText_any n hn w).mono ?_
  rintro e w1 ⟨rfl, b1⟩
  go_wp2_with fail
  refine (numText_pow n hn w1 (var_kept HV.out b1)).mono ?_
  rintro e w2 ⟨rfl, b2⟩
  have B := b1.trans (b2.mono b1.size)
  go_wp2
  go_ret
  exact ⟨rfl, B⟩

set_option maxHeartbeats 800000 in
theorem exParseNum_walk (s : ByteArray) (hs : s.size ≤ maxLen) (w : World) (hv : Vars w) :
    Calls Tryd.prog 5 #[.string s] w fun e w' => e = .returned (.bool true) ∧ Below w.heap.size w w' := by
  have HV := Lib.hid hv
  clear hv
  unfold maxLen at hs
  by_cases h : s.size ≤ 1048576
  · go_enter Tryd.func5, Tryd.ntmps5
    go_wp2_with fail
    refine (sParseNum_any s (by omega) w).mono ?_
    rintro e w1 ⟨rfl, b1⟩
    go_wp2_with fail
    refine (parseNum_any s (by omega) w1 (HV.out.below b1)).mono ?_
    rintro e w2 ⟨rfl, b2⟩
    have B := b1.trans (b2.mono b1.size)
    go_wp2
    go_ret
    exact ⟨rfl, B⟩
  · go_enter Tryd.func5, Tryd.ntmps5
    go_wp2
    go_ret
    exact ⟨rfl, Below.refl _ _⟩
end Go.Proofs.YtpjboijmajlocaaDoor
