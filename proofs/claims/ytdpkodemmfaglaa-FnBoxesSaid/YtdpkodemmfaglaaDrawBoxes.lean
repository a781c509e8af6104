/- What the laws of rectangles draw: one or two rectangles, out of the bytes that came in. -/
import Derived.Test.YtdpkodemmfaglaaDrawPair
import Derived.Test.YtdpkodemmfaglaaBox
namespace Go.Proofs.Ytdpkodemmfaglaa
open Go.RowKit

def DrawnPair (w : World) (e : Ending) (w' : World) : Prop :=
  ∃ a b c d p q r s, e = .returned (.tuple #[.agg #[.int .i64 a, .int .i64 b, .int .i64 c, .int .i64 d], .agg #[.int .i64 p, .int .i64 q, .int .i64 r, .int .i64 s]]) ∧ Any4 a b c d ∧ Any4 p q r s ∧ Below w.heap.size w w'
def DrawnOne (w : World) (e : Ending) (w' : World) : Prop :=
  ∃ a b c d, e = .returned (.agg #[.int .i64 a, .int .i64 b, .int .i64 c, .int .i64 d]) ∧ Any4 a b c d ∧ Below w.heap.size w w'
/-- Only blocks from B on may have turned: what the cursor's own block and new ones mean to the caller. -/
theorem below_blk {B : Nat} {w W W' : World} {g : Nat} (h : Below B w W) (hg : W.grownBy W' (some g)) (hB : B ≤ g) (hs : B ≤ W.heap.size) : Below B w W' := h.grown hg hs (fun k hk => by cases hk; exact hB)

set_option maxHeartbeats 800000 in
theorem drawBoxOk_any (A : Option Addr) (cap : Nat) (zs : List Int) (w : World) (h : RdI .u8 w A zs.length cap zs) (hz : ∀ z ∈ zs, 0 ≤ z ∧ z ≤ 255) (hn : zs.length ≤ 1048576) :
    Calls Try.prog 18 #[.slice A zs.length cap] w (DrawnOne w) := by
  have HR := Lib.hid h
  have HZ := Lib.hid hz
  clear h hz
  have K0 := Lib.hid (blk_new w #[.int .i64 0, .int .i64 0, .int .i64 0, .int .i64 0] 25)
  go_enter Try.func18, Try.ntmps18
  go_wp2_with fail
  refine (l1New_any A cap zs _ (HR.out.below ((Below.refl _ _).alloc (Nat.le_refl _) _)) HZ.out hn).mono ?_
  rintro e w1 ⟨g, rfl, cu, hb, hg⟩
  simp at hg
  replace K0 := Lib.hid (below_keep hb (by simp) _ _ K0.out)
  have s1 := hb.size
  simp at s1
  replace hb := ((Below.refl _ _).alloc (Nat.le_refl _) _).trans (hb.mono (show w.heap.size ≤ _ by simp))
  go_wp2_with fail
  refine (l2Any_any g zs _ cu).mono ?_
  rintro e w2 ⟨a, b, c, d, rfl, A4, cu, g2⟩
  replace A4 := Lib.hid A4
  obtain ⟨k0, f0⟩ := blk_keep g2 (by omega) (by omega) _ _ K0.out
  replace hb := below_blk hb g2 (by omega) (by omega)
  clear g2 K0
  go_wp2
  refine bodyPost_ret (v := .agg #[.int .i64 a, .int .i64 b, .int .i64 c, .int .i64 d]) (by simp [results, Try.results18, go_sem, k0]) rfl ⟨_, _, _, _, rfl, A4.out, ?_⟩
  exact (((hb.setCell (p := ⟨w.heap.size, 0, none⟩) (Nat.le_refl _) _).setCell (p := ⟨w.heap.size, 1, none⟩) (Nat.le_refl _) _).setCell (p := ⟨w.heap.size, 2, none⟩) (Nat.le_refl _) _).setCell (p := ⟨w.heap.size, 3, none⟩) (Nat.le_refl _) _

set_option maxHeartbeats 800000 in
theorem drawArea_any (A : Option Addr) (cap : Nat) (zs : List Int) (w : World) (h : RdI .u8 w A zs.length cap zs) (hz : ∀ z ∈ zs, 0 ≤ z ∧ z ≤ 255) (hn : zs.length ≤ 1048576) :
    Calls Try.prog 19 #[.slice A zs.length cap] w (DrawnOne w) := by
  have HR := Lib.hid h
  have HZ := Lib.hid hz
  clear h hz
  have K0 := Lib.hid (blk_new w #[.int .i64 0, .int .i64 0, .int .i64 0, .int .i64 0] 25)
  go_enter Try.func19, Try.ntmps19
  go_wp2_with fail
  refine (l1New_any A cap zs _ (HR.out.below ((Below.refl _ _).alloc (Nat.le_refl _) _)) HZ.out hn).mono ?_
  rintro e w1 ⟨g, rfl, cu, hb, hg⟩
  simp at hg
  replace K0 := Lib.hid (below_keep hb (by simp) _ _ K0.out)
  have s1 := hb.size
  simp at s1
  replace hb := ((Below.refl _ _).alloc (Nat.le_refl _) _).trans (hb.mono (show w.heap.size ≤ _ by simp))
  go_wp2_with fail
  refine (l2Any_any g zs _ cu).mono ?_
  rintro e w2 ⟨a, b, c, d, rfl, A4, cu, g2⟩
  replace A4 := Lib.hid A4
  obtain ⟨k0, f0⟩ := blk_keep g2 (by omega) (by omega) _ _ K0.out
  replace hb := below_blk hb g2 (by omega) (by omega)
  clear g2 K0
  go_wp2
  refine bodyPost_ret (v := .agg #[.int .i64 a, .int .i64 b, .int .i64 c, .int .i64 d]) (by simp [results, Try.results19, go_sem, k0]) rfl ⟨_, _, _, _, rfl, A4.out, ?_⟩
  exact (((hb.setCell (p := ⟨w.heap.size, 0, none⟩) (Nat.le_refl _) _).setCell (p := ⟨w.heap.size, 1, none⟩) (Nat.le_refl _) _).setCell (p := ⟨w.heap.size, 2, none⟩) (Nat.le_refl _) _).setCell (p := ⟨w.heap.size, 3, none⟩) (Nat.le_refl _) _

set_option maxHeartbeats 800000 in
theorem drawJoin_any (A : Option Addr) (cap : Nat) (zs : List Int) (w : World) (h : RdI .u8 w A zs.length cap zs) (hz : ∀ z ∈ zs, 0 ≤ z ∧ z ≤ 255) (hn : zs.length ≤ 1048576) :
    Calls Try.prog 13 #[.slice A zs.length cap] w (DrawnPair w) := by
  have HR := Lib.hid h
  have HZ := Lib.hid hz
  clear h hz
  have K0 := Lib.hid (blk_alloc (.cells #[.int .i64 0, .int .i64 0, .int .i64 0, .int .i64 0] 25) (by simp) _ _ (blk_new w #[.int .i64 0, .int .i64 0, .int .i64 0, .int .i64 0] 25))
  have K1 := Lib.hid (blk_new1 w (.cells #[.int .i64 0, .int .i64 0, .int .i64 0, .int .i64 0] 25) #[.int .i64 0, .int .i64 0, .int .i64 0, .int .i64 0] 25)
  have hne : w.heap.size ≠ w.heap.size + 1 := by omega
  go_enter Try.func13, Try.ntmps13
  go_wp2_with fail
  refine (l1New_any A cap zs _ (HR.out.below (((Below.refl _ _).alloc (Nat.le_refl _) _).alloc (by simp) _)) HZ.out hn).mono ?_
  rintro e w1 ⟨g, rfl, cu, hb, hg⟩
  simp at hg
  replace K0 := Lib.hid (below_keep hb (by simp; omega) _ _ K0.out)
  replace K1 := Lib.hid (below_keep hb (by simp) _ _ K1.out)
  have s1 := hb.size
  simp at s1
  replace hb := (((Below.refl _ _).alloc (Nat.le_refl _) _).alloc (by simp) _).trans (hb.mono (show w.heap.size ≤ _ by simp; omega))
  go_wp2_with fail
  refine (l2Pair_any g zs _ cu).mono ?_
  rintro e w2 ⟨a, b, c, d, p, q, r, s, rfl, A4, B4, cu, g2⟩
  replace A4 := Lib.hid A4
  replace B4 := Lib.hid B4
  obtain ⟨k0, f0⟩ := blk_keep g2 (by omega) (by omega) _ _ K0.out
  obtain ⟨k1, f1⟩ := blk_keep g2 (by omega) (by omega) _ _ K1.out
  replace hb := below_blk hb g2 (by omega) (by omega)
  clear g2 K0 K1
  go_wp2
  refine bodyPost_ret (v := .tuple #[.agg #[.int .i64 a, .int .i64 b, .int .i64 c, .int .i64 d], .agg #[.int .i64 p, .int .i64 q, .int .i64 r, .int .i64 s]]) (by simp [results, Try.results13, go_sem, k0, k1]) rfl ⟨_, _, _, _, _, _, _, _, rfl, A4.out, B4.out, ?_⟩
  exact (((((((hb.setCell (p := ⟨w.heap.size, 0, none⟩) (Nat.le_refl _) _).setCell (p := ⟨w.heap.size, 1, none⟩) (Nat.le_refl _) _).setCell (p := ⟨w.heap.size, 2, none⟩) (Nat.le_refl _) _).setCell (p := ⟨w.heap.size, 3, none⟩) (Nat.le_refl _) _).setCell (p := ⟨w.heap.size + 1, 0, none⟩) (Nat.le_succ _) _).setCell (p := ⟨w.heap.size + 1, 1, none⟩) (Nat.le_succ _) _).setCell (p := ⟨w.heap.size + 1, 2, none⟩) (Nat.le_succ _) _).setCell (p := ⟨w.heap.size + 1, 3, none⟩) (Nat.le_succ _) _

set_option maxHeartbeats 800000 in
theorem drawMeets_any (A : Option Addr) (cap : Nat) (zs : List Int) (w : World) (h : RdI .u8 w A zs.length cap zs) (hz : ∀ z ∈ zs, 0 ≤ z ∧ z ≤ 255) (hn : zs.length ≤ 1048576) :
    Calls Try.prog 15 #[.slice A zs.length cap] w (DrawnPair w) := by
  have HR := Lib.hid h
  have HZ := Lib.hid hz
  clear h hz
  have K0 := Lib.hid (blk_alloc (.cells #[.int .i64 0, .int .i64 0, .int .i64 0, .int .i64 0] 25) (by simp) _ _ (blk_new w #[.int .i64 0, .int .i64 0, .int .i64 0, .int .i64 0] 25))
  have K1 := Lib.hid (blk_new1 w (.cells #[.int .i64 0, .int .i64 0, .int .i64 0, .int .i64 0] 25) #[.int .i64 0, .int .i64 0, .int .i64 0, .int .i64 0] 25)
  have hne : w.heap.size ≠ w.heap.size + 1 := by omega
  go_enter Try.func15, Try.ntmps15
  go_wp2_with fail
  refine (l1New_any A cap zs _ (HR.out.below (((Below.refl _ _).alloc (Nat.le_refl _) _).alloc (by simp) _)) HZ.out hn).mono ?_
  rintro e w1 ⟨g, rfl, cu, hb, hg⟩
  simp at hg
  replace K0 := Lib.hid (below_keep hb (by simp; omega) _ _ K0.out)
  replace K1 := Lib.hid (below_keep hb (by simp) _ _ K1.out)
  have s1 := hb.size
  simp at s1
  replace hb := (((Below.refl _ _).alloc (Nat.le_refl _) _).alloc (by simp) _).trans (hb.mono (show w.heap.size ≤ _ by simp; omega))
  go_wp2_with fail
  refine (l2Pair_any g zs _ cu).mono ?_
  rintro e w2 ⟨a, b, c, d, p, q, r, s, rfl, A4, B4, cu, g2⟩
  replace A4 := Lib.hid A4
  replace B4 := Lib.hid B4
  obtain ⟨k0, f0⟩ := blk_keep g2 (by omega) (by omega) _ _ K0.out
  obtain ⟨k1, f1⟩ := blk_keep g2 (by omega) (by omega) _ _ K1.out
  replace hb := below_blk hb g2 (by omega) (by omega)
  clear g2 K0 K1
  go_wp2
  refine bodyPost_ret (v := .tuple #[.agg #[.int .i64 a, .int .i64 b, .int .i64 c, .int .i64 d], .agg #[.int .i64 p, .int .i64 q, .int .i64 r, .int .i64 s]]) (by simp [results, Try.results15, go_sem, k0, k1]) rfl ⟨_, _, _, _, _, _, _, _, rfl, A4.out, B4.out, ?_⟩
  exact (((((((hb.setCell (p := ⟨w.heap.size, 0, none⟩) (Nat.le_refl _) _).setCell (p := ⟨w.heap.size, 1, none⟩) (Nat.le_refl _) _).setCell (p := ⟨w.heap.size, 2, none⟩) (Nat.le_refl _) _).setCell (p := ⟨w.heap.size, 3, none⟩) (Nat.le_refl _) _).setCell (p := ⟨w.heap.size + 1, 0, none⟩) (Nat.le_succ _) _).setCell (p := ⟨w.heap.size + 1, 1, none⟩) (Nat.le_succ _) _).setCell (p := ⟨w.heap.size + 1, 2, none⟩) (Nat.le_succ _) _).setCell (p := ⟨w.heap.size + 1, 3, none⟩) (Nat.le_succ _) _

set_option maxHeartbeats 800000 in
theorem drawGrowth_any (A : Option Addr) (cap : Nat) (zs : List Int) (w : World) (h : RdI .u8 w A zs.length cap zs) (hz : ∀ z ∈ zs, 0 ≤ z ∧ z ≤ 255) (hn : zs.length ≤ 1048576) :
    Calls Try.prog 17 #[.slice A zs.length cap] w (DrawnPair w) := by
  have HR := Lib.hid h
  have HZ := Lib.hid hz
  clear h hz
  have K0 := Lib.hid (blk_alloc (.cells #[.int .i64 0, .int .i64 0, .int .i64 0, .int .i64 0] 25) (by simp) _ _ (blk_new w #[.int .i64 0, .int .i64 0, .int .i64 0, .int .i64 0] 25))
  have K1 := Lib.hid (blk_new1 w (.cells #[.int .i64 0, .int .i64 0, .int .i64 0, .int .i64 0] 25) #[.int .i64 0, .int .i64 0, .int .i64 0, .int .i64 0] 25)
  have hne : w.heap.size ≠ w.heap.size + 1 := by omega
  go_enter Try.func17, Try.ntmps17
  go_wp2_with fail
  refine (l1New_any A cap zs _ (HR.out.below (((Below.refl _ _).alloc (Nat.le_refl _) _).alloc (by simp) _)) HZ.out hn).mono ?_
  rintro e w1 ⟨g, rfl, cu, hb, hg⟩
  simp at hg
  replace K0 := Lib.hid (below_keep hb (by simp; omega) _ _ K0.out)
  replace K1 := Lib.hid (below_keep hb (by simp) _ _ K1.out)
  have s1 := hb.size
  simp at s1
  replace hb := (((Below.refl _ _).alloc (Nat.le_refl _) _).alloc (by simp) _).trans (hb.mono (show w.heap.size ≤ _ by simp; omega))
  go_wp2_with fail
  refine (l2Pair_any g zs _ cu).mono ?_
  rintro e w2 ⟨a, b, c, d, p, q, r, s, rfl, A4, B4, cu, g2⟩
  replace A4 := Lib.hid A4
  replace B4 := Lib.hid B4
  obtain ⟨k0, f0⟩ := blk_keep g2 (by omega) (by omega) _ _ K0.out
  obtain ⟨k1, f1⟩ := blk_keep g2 (by omega) (by omega) _ _ K1.out
  replace hb := below_blk hb g2 (by omega) (by omega)
  clear g2 K0 K1
  go_wp2
  refine bodyPost_ret (v := .tuple #[.agg #[.int .i64 a, .int .i64 b, .int .i64 c, .int .i64 d], .agg #[.int .i64 p, .int .i64 q, .int .i64 r, .int .i64 s]]) (by simp [results, Try.results17, go_sem, k0, k1]) rfl ⟨_, _, _, _, _, _, _, _, rfl, A4.out, B4.out, ?_⟩
  exact (((((((hb.setCell (p := ⟨w.heap.size, 0, none⟩) (Nat.le_refl _) _).setCell (p := ⟨w.heap.size, 1, none⟩) (Nat.le_refl _) _).setCell (p := ⟨w.heap.size, 2, none⟩) (Nat.le_refl _) _).setCell (p := ⟨w.heap.size, 3, none⟩) (Nat.le_refl _) _).setCell (p := ⟨w.heap.size + 1, 0, none⟩) (Nat.le_succ _) _).setCell (p := ⟨w.heap.size + 1, 1, none⟩) (Nat.le_succ _) _).setCell (p := ⟨w.heap.size + 1, 2, none⟩) (Nat.le_succ _) _).setCell (p := ⟨w.heap.size + 1, 3, none⟩) (Nat.le_succ _) _
end Go.Proofs.Ytdpkodemmfaglaa
