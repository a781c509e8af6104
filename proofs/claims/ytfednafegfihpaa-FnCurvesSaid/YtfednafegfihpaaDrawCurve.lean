/- What the law of the curve draws: a point, a position, two positions, rectangles. -/
import Derived.Test.YtfednafegfihpaaDrawBoxes
namespace Go.Proofs.Ytfednafegfihpaa
open Go.RowKit

def DrawnInt (R : Int → Prop) (w : World) (e : Ending) (w' : World) : Prop := ∃ x, e = .returned (.int .i64 x) ∧ R x ∧ Below w.heap.size w w'
def DrawnInts (R : Int → Int → Prop) (w : World) (e : Ending) (w' : World) : Prop := ∃ x y, e = .returned (.tuple #[.int .i64 x, .int .i64 y]) ∧ R x y ∧ Below w.heap.size w w'
def DrawnSmall (w : World) (e : Ending) (w' : World) : Prop :=
  ∃ a b c d, e = .returned (.agg #[.int .i64 a, .int .i64 b, .int .i64 c, .int .i64 d]) ∧ Small4 a b c d ∧ Below w.heap.size w w'
theorem four_mem {x : Int} (h : x ∈ [-1, 256, 0, 255]) : -1 ≤ x ∧ x ≤ 256 := by simp at h; omega
theorem step_mem {x : Int} (h : x ∈ [1, 1, 4, -7]) : -7 ≤ x ∧ x ≤ 4 := by simp at h; omega

set_option maxHeartbeats 800000 in
theorem drawAlong_any (A : Option Addr) (cap : Nat) (zs : List Int) (w : World) (h : RdI .u8 w A zs.length cap zs) (hz : ∀ z ∈ zs, 0 ≤ z ∧ z ≤ 255) (hn : zs.length ≤ 1048576) :
    Calls Try.prog 10 #[.slice A zs.length cap] w (DrawnInts (fun x y => I64 x ∧ I64 y) w) := by
  have HR := Lib.hid h
  have HZ := Lib.hid hz
  clear h hz
  go_enter Try.func10, Try.ntmps10
  go_wp2_with fail
  refine (l1New_any A cap zs _ HR.out HZ.out hn).mono ?_
  rintro e w1 ⟨g, rfl, cu, hb, hg⟩
  go_wp2_with fail
  refine (l1Once_any g zs 8 _ cu (by omega)).mono ?_
  rintro e w2 ⟨b, rfl, cu, g2⟩
  replace hb := below_blk hb g2 hg hb.size
  clear g2
  have hlt := cur_lt cu
  cases b with
  | true =>
    go_wp2_with fail
    refine (l1Int_any g zs [-1, 256, 0, 255] (some ⟨w2.heap.size, 0, none⟩) 4 4 _ (cur_alloc cu _) (rdI_new w2 .i64 [-1, 256, 0, 255] _ _ 4 rfl rfl (by simp [maxLen])) (by omega) (by omega) (fun x hx => by cases hx; simp; omega)).mono ?_
    intro e w3 hd
    obtain ⟨x, rfl, hx, cu, g2⟩ := drawnOf_lit hd
    clear hd
    obtain ⟨x0, x1⟩ := four_mem hx
    clear hx
    replace hb := below_blk hb g2 hg hb.size
    clear g2
    go_wp2_with fail
    refine (l1Raw_any g zs _ cu).mono ?_
    rintro e w4 ⟨y, rfl, hy, cu, g2⟩
    replace hb := below_blk hb g2 hg hb.size
    replace hy := Lib.hid (i64_wf hy)
    clear g2
    go_wp2
    go_ret2
    exact ⟨_, _, rfl, ⟨⟨by omega, by omega⟩, hy.out⟩, hb⟩
  | false =>
    go_wp2_with fail
    refine (l1Below_any g zs 256 _ cu (by omega)).mono ?_
    rintro e w3 ⟨x, rfl, x0, x1, cu, g2⟩
    simp at x1
    replace hb := below_blk hb g2 hg hb.size
    clear g2
    go_wp2_with fail
    refine (l1Below_any g zs 256 _ cu (by omega)).mono ?_
    rintro e w4 ⟨y, rfl, y0, y1, cu, g2⟩
    simp at y1
    replace hb := below_blk hb g2 hg hb.size
    clear g2
    go_wp2
    go_ret2
    exact ⟨_, _, rfl, ⟨⟨by omega, by omega⟩, by omega, by omega⟩, hb⟩

set_option maxHeartbeats 800000 in
theorem drawPointAt_any (A : Option Addr) (cap : Nat) (zs : List Int) (w : World) (h : RdI .u8 w A zs.length cap zs) (hz : ∀ z ∈ zs, 0 ≤ z ∧ z ≤ 255) (hn : zs.length ≤ 1048576) :
    Calls Try.prog 12 #[.slice A zs.length cap] w (DrawnInt I64 w) := by
  go_enter Try.func12, Try.ntmps12
  go_wp2_with fail
  refine (l1New_any A cap zs _ h hz hn).mono ?_
  rintro e w1 ⟨g, rfl, cu, hb, hg⟩
  clear h hz
  go_wp2_with fail
  refine (l1Once_any g zs 8 _ cu (by omega)).mono ?_
  rintro e w2 ⟨b, rfl, cu, g2⟩
  replace hb := below_blk hb g2 hg hb.size
  clear g2
  cases b with
  | true =>
    go_wp2_with fail
    refine (l1Raw_any g zs _ cu).mono ?_
    rintro e w4 ⟨y, rfl, hy, cu, g2⟩
    replace hb := below_blk hb g2 hg hb.size
    replace hy := Lib.hid (i64_wf hy)
    clear g2
    go_wp2
    go_ret
    exact ⟨_, rfl, hy.out, hb⟩
  | false =>
    go_wp2_with fail
    refine (l1Below_any g zs 65536 _ cu (by omega)).mono ?_
    rintro e w3 ⟨x, rfl, x0, x1, cu, g2⟩
    simp at x1
    replace hb := below_blk hb g2 hg hb.size
    clear g2
    go_wp2
    go_ret
    exact ⟨_, rfl, ⟨by omega, by omega⟩, hb⟩

set_option maxHeartbeats 800000 in
theorem drawApart_any (A : Option Addr) (cap : Nat) (zs : List Int) (w : World) (h : RdI .u8 w A zs.length cap zs) (hz : ∀ z ∈ zs, 0 ≤ z ∧ z ≤ 255) (hn : zs.length ≤ 1048576) :
    Calls Try.prog 15 #[.slice A zs.length cap] w (DrawnInts (fun x _ => 0 ≤ x ∧ x ≤ 65535) w) := by
  go_enter Try.func15, Try.ntmps15
  go_wp2_with fail
  refine (l1New_any A cap zs _ h hz hn).mono ?_
  rintro e w1 ⟨g, rfl, cu, hb, hg⟩
  clear h hz
  go_wp2_with fail
  refine (l1Below_any g zs 65536 _ cu (by omega)).mono ?_
  rintro e w2 ⟨x, rfl, x0, x1, cu, g2⟩
  simp at x1
  replace hb := below_blk hb g2 hg hb.size
  clear g2
  have hlt := cur_lt cu
  go_wp2_with fail
  refine (l1Int_any g zs [1, 1, 4, -7] (some ⟨w2.heap.size, 0, none⟩) 4 4 _ (cur_alloc cu _) (rdI_new w2 .i64 [1, 1, 4, -7] _ _ 4 rfl rfl (by simp [maxLen])) (by omega) (by omega) (fun x hx => by cases hx; simp; omega)).mono ?_
  intro e w3 hd
  obtain ⟨y, rfl, hy, cu, g2⟩ := drawnOf_lit hd
  clear hd
  obtain ⟨y0, y1⟩ := step_mem hy
  clear hy
  replace hb := below_blk hb g2 hg hb.size
  clear g2
  go_wp2
  go_ret2
  exact ⟨_, _, rfl, ⟨by omega, by omega⟩, hb⟩

set_option maxHeartbeats 800000 in
theorem drawMiddle_any (A : Option Addr) (cap : Nat) (zs : List Int) (w : World) (h : RdI .u8 w A zs.length cap zs) (hz : ∀ z ∈ zs, 0 ≤ z ∧ z ≤ 255) (hn : zs.length ≤ 1048576) :
    Calls Try.prog 16 #[.slice A zs.length cap] w (DrawnSmall w) := by
  have HR := Lib.hid h
  have HZ := Lib.hid hz
  clear h hz
  have K0 := Lib.hid (blk_new w #[.int .i64 0, .int .i64 0, .int .i64 0, .int .i64 0] 30)
  go_enter Try.func16, Try.ntmps16
  go_wp2_with fail
  refine (l1New_any A cap zs _ (HR.out.below ((Below.refl _ _).alloc (Nat.le_refl _) _)) HZ.out hn).mono ?_
  rintro e w1 ⟨g, rfl, cu, hb, hg⟩
  simp at hg
  replace K0 := Lib.hid (below_keep hb (by simp) _ _ K0.out)
  have s1 := hb.size
  simp at s1
  replace hb := ((Below.refl _ _).alloc (Nat.le_refl _) _).trans (hb.mono (show w.heap.size ≤ _ by simp))
  go_wp2_with fail
  refine (l2Draw_any g zs _ cu).mono ?_
  rintro e w2 ⟨a, b, c, d, rfl, A4, cu, g2⟩
  replace A4 := Lib.hid A4
  obtain ⟨k0, f0⟩ := blk_keep g2 (by omega) (by omega) _ _ K0.out
  replace hb := below_blk hb g2 (by omega) (by omega)
  clear g2 K0
  go_wp2
  refine bodyPost_ret (v := .agg #[.int .i64 a, .int .i64 b, .int .i64 c, .int .i64 d]) (by simp [results, Try.results16, go_sem, k0]) rfl ⟨_, _, _, _, rfl, A4.out, ?_⟩
  exact (((hb.setCell (p := ⟨w.heap.size, 0, none⟩) (Nat.le_refl _) _).setCell (p := ⟨w.heap.size, 1, none⟩) (Nat.le_refl _) _).setCell (p := ⟨w.heap.size, 2, none⟩) (Nat.le_refl _) _).setCell (p := ⟨w.heap.size, 3, none⟩) (Nat.le_refl _) _


set_option maxHeartbeats 800000 in
theorem drawKeyOf_any (A : Option Addr) (cap : Nat) (zs : List Int) (w : World) (h : RdI .u8 w A zs.length cap zs) (hz : ∀ z ∈ zs, 0 ≤ z ∧ z ≤ 255) (hn : zs.length ≤ 1048576) :
    Calls Try.prog 17 #[.slice A zs.length cap] w (DrawnSmall w) := by
  have HR := Lib.hid h
  have HZ := Lib.hid hz
  clear h hz
  have K0 := Lib.hid (blk_new w #[.int .i64 0, .int .i64 0, .int .i64 0, .int .i64 0] 30)
  go_enter Try.func17, Try.ntmps17
  go_wp2_with fail
  refine (l1New_any A cap zs _ (HR.out.below ((Below.refl _ _).alloc (Nat.le_refl _) _)) HZ.out hn).mono ?_
  rintro e w1 ⟨g, rfl, cu, hb, hg⟩
  simp at hg
  replace K0 := Lib.hid (below_keep hb (by simp) _ _ K0.out)
  have s1 := hb.size
  simp at s1
  replace hb := ((Below.refl _ _).alloc (Nat.le_refl _) _).trans (hb.mono (show w.heap.size ≤ _ by simp))
  go_wp2_with fail
  refine (l2Draw_any g zs _ cu).mono ?_
  rintro e w2 ⟨a, b, c, d, rfl, A4, cu, g2⟩
  replace A4 := Lib.hid A4
  obtain ⟨k0, f0⟩ := blk_keep g2 (by omega) (by omega) _ _ K0.out
  replace hb := below_blk hb g2 (by omega) (by omega)
  clear g2 K0
  go_wp2
  refine bodyPost_ret (v := .agg #[.int .i64 a, .int .i64 b, .int .i64 c, .int .i64 d]) (by simp [results, Try.results17, go_sem, k0]) rfl ⟨_, _, _, _, rfl, A4.out, ?_⟩
  exact (((hb.setCell (p := ⟨w.heap.size, 0, none⟩) (Nat.le_refl _) _).setCell (p := ⟨w.heap.size, 1, none⟩) (Nat.le_refl _) _).setCell (p := ⟨w.heap.size, 2, none⟩) (Nat.le_refl _) _).setCell (p := ⟨w.heap.size, 3, none⟩) (Nat.le_refl _) _
end Go.Proofs.Ytfednafegfihpaa
