/- The program's BookNew, NodeAt, Put. -/
import Derived.Test.YtfefggcfeppeiaaGreatBookI2ZLooks
namespace Go.Proofs.YtfefggcfeppeiaaGreat
open Go.RowKit

set_option maxRecDepth 100000 in
set_option maxHeartbeats 1600000 in
theorem iBookNew_any : CBookNew 25 := by
  intro w
  have KR := Loc.new w #[.int .i64 0, .slice none 0 0] 26
  have B0 := new_below w (.cells #[.int .i64 0, .slice none 0 0] 26)
  go_enter Tryz.func25, Tryz.ntmps25
  go_wp2_with fail
  refine (iNewPage_any _).mono ?_
  rintro e w1 ⟨rfl, hb⟩
  have hs := hb.size
  simp at hs
  have L1 := KR.below hb
  have L2 := (L1.set 0 (.int .i64 0) (by show 0 < 2; decide)).set 1 (.slice (some ⟨w1.heap.size, 0, none⟩) 1 1) (by show 1 < 2; decide)
  obtain ⟨W2, hW2⟩ : ∃ W2, W2 = (w1.setCell ⟨w.heap.size, 0, none⟩ (.int .i64 0)).setCell ⟨w.heap.size, 1, none⟩ (.slice (some ⟨w1.heap.size, 0, none⟩) 1 1) := ⟨_, rfl⟩
  have hs2 : W2.heap.size = w1.heap.size := by subst hW2; simp
  rw [← hW2] at L2
  have R := World.ownsRow_lit (base := W2.heap.size) (size := 3) (e := 70) W2 #[.bool true, .bool true, .slice none 0 0] 1 (Nat.le_refl _) (by simp [maxLen]) rfl
  rw [hs2] at R
  have OP : Hid (OwnP (W2.alloc (.cells #[.bool true, .bool true, .slice none 0 0] 70)) w1.heap.size (.slice (some ⟨w1.heap.size, 0, none⟩) 1 1) [⟨true, true, none, 0, 0, []⟩]) := by
    refine Lib.hid ⟨R, fun p hp => ?_, fun p hp => ?_, fun i j p q hij hp hq => ?_⟩
    · obtain rfl := List.mem_singleton.1 hp
      exact ownS_none _ _ _
    · obtain rfl := List.mem_singleton.1 hp
      exact (apart_none _ 0 0).1
    · obtain rfl := List.mem_singleton.1 (List.mem_of_getElem? hp)
      exact (apart_none _ 0 0).2
  have B1 : Hid (Below w.heap.size w (W2.alloc (.cells #[.bool true, .bool true, .slice none 0 0] 70))) := by
    have h1 : Below w.heap.size w W2 := by
      rw [hW2]
      exact ((B0.trans (hb.mono B0.size)).setCell (p := ⟨w.heap.size, 0, none⟩) (Nat.le_refl _) _).setCell (p := ⟨w.heap.size, 1, none⟩) (Nat.le_refl _) _
    exact Lib.hid (h1.alloc h1.size _)
  obtain ⟨hl, k0, f0⟩ := L2.alloc (.cells #[.bool true, .bool true, .slice none 0 0] 70)
  obtain ⟨hl', k0', f0'⟩ := L1
  clear R B0 hb KR L2
  go_wp2
  rw [← hW2]
  exact bodyPost_ret (v := .agg #[.int .i64 0, .slice (some ⟨w1.heap.size, 0, none⟩) 1 1]) (by simp [results, Tryz.results25, go_sem, k0]) rfl ⟨_, [⟨true, true, none, 0, 0, []⟩], rfl, rfl, OP.out.mono (by omega), B1.out⟩

end Go.Proofs.YtfefggcfeppeiaaGreat
