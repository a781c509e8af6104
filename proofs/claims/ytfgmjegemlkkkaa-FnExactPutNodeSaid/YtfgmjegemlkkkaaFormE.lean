/- The model's GetEntry: six bytes of a slice, read as an entry. -/
import Derived.Test.YtfgmjegemlkkkaaNum
import Derived.Test.YtfgmjegemlkkkaaBox2
import Derived.Test.YtfgmjegemlkkkaaItemS
import Derived.BigRegion
namespace Go.Proofs.Ytfgmjegemlkkkaa
open Go.RowKit

/-- The entry that six bytes hold, were it valid. -/
def rawE (bs : List Int) (m : Nat) : It := ⟨256 * bs.getD m 0 + bs.getD (m + 1) 0, bs.getD (m + 2) 0, bs.getD (m + 3) 0, bs.getD (m + 4) 0, bs.getD (m + 5) 0⟩
def hasE (bs : List Int) (x : Int) : Bool := decide (0 ≤ x ∧ x ≤ (bs.length : Int) - 6) && okB (rawE bs x.toNat).x0 (rawE bs x.toNat).y0 (rawE bs x.toNat).x1 (rawE bs x.toNat).y1
/-- GetEntry: the entry, or the zero one. -/
def getE (bs : List Int) (x : Int) : It := if hasE bs x then rawE bs x.toNat else zeroIt
def RetE (y : It) (t : Bool) (w : World) (e : Ending) (w' : World) : Prop := e = .returned (.tuple #[.agg #[.int .i64 y.id, .int .i64 y.x0, .int .i64 y.y0, .int .i64 y.x1, .int .i64 y.y1], .bool t]) ∧ Below w.heap.size w w'
theorem hasE_no {bs : List Int} {x : Int} (h : ¬ (0 ≤ x ∧ x ≤ (bs.length : Int) - 6)) : hasE bs x = false := by unfold hasE; rw [decide_eq_false h]; rfl
theorem getE_no {bs : List Int} {x : Int} (h : hasE bs x = false) : getE bs x = zeroIt := by unfold getE; rw [h]; rfl
theorem getE_yes {bs : List Int} {x : Int} (h : hasE bs x = true) : getE bs x = rawE bs x.toNat := by unfold getE; rw [if_pos h]

set_option maxHeartbeats 3200000 in
set_option maxRecDepth 100000 in
theorem sGetEntry_any (a : Option Addr) (n c : Nat) (bs : List Int) (x : Int) (w : World) (h : RdI .u8 w a n c bs) (hz : ∀ j, 0 ≤ bs.getD j 0 ∧ bs.getD j 0 ≤ 255) (hn : n ≤ 100000000) (hx : (Lit.int .i64 x).wf = true) :
    Calls Try.prog 17 #[.slice a n c, .int .i64 x] w (RetE (getE bs x) (hasE bs x) w) := by
  obtain ⟨l0, u0⟩ := bounds_i64 hx
  have HR := Lib.hid h
  have HX := Lib.hid hx
  have J := Lib.hid (blk_new w #[.int .i64 0, .int .i64 0, .int .i64 0, .int .i64 0, .int .i64 0] 35)
  have B0 := Lib.hid (new_below w (.cells #[.int .i64 0, .int .i64 0, .int .i64 0, .int .i64 0, .int .i64 0] 35))
  clear h hx
  by_cases h1 : 0 ≤ x
  · by_cases h2 : x ≤ (n : Int) - 6
    · obtain ⟨m, rfl⟩ := Int.eq_ofNat_of_zero_le h1
      have hle : Hid (decide (0 ≤ (m : Int) ∧ (m : Int) ≤ (bs.length : Int) - 6) = true) := by have := HR.out.1.1; exact Lib.hid (decide_eq_true (by omega))
      have H2 : Hid (get2 bs m = 256 * bs.getD m 0 + bs.getD (m + 1) 0) := by
        have := HR.out.1.1
        show get2 bs m = _
        unfold get2
        rw [if_pos (by omega)]
        simp
      have HR0 := HR.out.2 (by omega)
      obtain ⟨b, off, rfl, hc⟩ := HR0
      obtain ⟨y, hy⟩ : ∃ y, rawE bs m = y := ⟨_, rfl⟩
      have c2 := hc (m + 2) (by omega)
      have c3 := hc (m + 3) (by omega)
      have c4 := hc (m + 4) (by omega)
      have c5 := hc (m + 5) (by omega)
      have hbl : b < w.heap.size := World.block_lt_of_cell? w ⟨b, off + (m + 2), none⟩ c2
      have e2 : bs.getD (m + 2) 0 = y.x0 := by rw [← hy]; rfl
      have e3 : bs.getD (m + 3) 0 = y.y0 := by rw [← hy]; rfl
      have e4 : bs.getD (m + 4) 0 = y.x1 := by rw [← hy]; rfl
      have e5 : bs.getD (m + 5) 0 = y.y1 := by rw [← hy]; rfl
      have e0 : get2 bs m = y.id := by rw [H2.out, ← hy]; rfl
      obtain ⟨b20, b21⟩ := hz (m + 2)
      obtain ⟨b30, b31⟩ := hz (m + 3)
      obtain ⟨b40, b41⟩ := hz (m + 4)
      obtain ⟨b50, b51⟩ := hz (m + 5)
      rw [e2] at c2 b20 b21
      rw [e3] at c3 b30 b31
      rw [e4] at c4 b40 b41
      rw [e5] at c5 b50 b51
      have CG := sGet2_any (some ⟨b, off, none⟩) n c bs m (w.alloc (.cells #[.int .i64 0, .int .i64 0, .int .i64 0, .int .i64 0, .int .i64 0] 35)) (HR.out.below B0.out) hz hn HX.out
      rw [e0] at CG
      replace CG := Lib.hid CG
      replace hy := Lib.hid hy
      clear e0 e2 e3 e4 e5 hc hz
      have CB := sBoxOk_any y.x0 y.y0 y.x1 y.y1
      go_enter Try.func17, Try.ntmps17
      go_wp2_with fail
      refine CG.out.mono ?_
      rintro e w2 ⟨rfl, hb⟩
      have J2 := Lib.hid (below_keep hb (by simp) _ _ J.out)
      have s2 := hb.size
      simp at s2
      have q2 := (bcell (B0.out.trans (hb.mono B0.out.size))).1 b (off + (m + 2)) hbl
      have q3 := (bcell (B0.out.trans (hb.mono B0.out.size))).1 b (off + (m + 3)) hbl
      have q4 := (bcell (B0.out.trans (hb.mono B0.out.size))).1 b (off + (m + 4)) hbl
      have q5 := (bcell (B0.out.trans (hb.mono B0.out.size))).1 b (off + (m + 5)) hbl
      rw [c2] at q2
      rw [c3] at q3
      rw [c4] at q4
      rw [c5] at q5
      replace hb := Lib.hid (B0.out.trans (hb.mono B0.out.size))
      clear c2 c3 c4 c5 HR CG
      have hbl2 : b < w2.heap.size := by omega
      have hbl3 : b ≠ w2.heap.size := by omega
      have KE := Lib.hid (blk_new_drew w2 #[.int .i64 y.id, .int .i64 y.x0, .int .i64 y.y0, .int .i64 y.x1, .int .i64 y.y1] 35)
      have J3 : Hid ((∀ o, (w2.alloc (.cells #[.int .i64 y.id, .int .i64 y.x0, .int .i64 y.y0, .int .i64 y.x1, .int .i64 y.y1] 35)).drew.cell? ⟨w.heap.size, o, none⟩ = (#[.int .i64 0, .int .i64 0, .int .i64 0, .int .i64 0, .int .i64 0] : Array Value)[o]?) ∧ (∀ o, (w2.alloc (.cells #[.int .i64 y.id, .int .i64 y.x0, .int .i64 y.y0, .int .i64 y.x1, .int .i64 y.y1] 35)).drew.frozen? ⟨w.heap.size, o, none⟩ = false)) := blk_alloc (.cells #[.int .i64 y.id, .int .i64 y.x0, .int .i64 y.y0, .int .i64 y.x1, .int .i64 y.y1] 35) (by omega) _ _ J2.out
      have hs3 : w2.heap.size < (w2.alloc (.cells #[.int .i64 y.id, .int .i64 y.x0, .int .i64 y.y0, .int .i64 y.x1, .int .i64 y.y1] 35)).drew.heap.size := by show w2.heap.size < (w2.alloc (.cells #[.int .i64 y.id, .int .i64 y.x0, .int .i64 y.y0, .int .i64 y.x1, .int .i64 y.y1] 35)).heap.size; simp
      have hs4 : w.heap.size < (w2.alloc (.cells #[.int .i64 y.id, .int .i64 y.x0, .int .i64 y.y0, .int .i64 y.x1, .int .i64 y.y1] 35)).drew.heap.size := by omega
      replace hb := Lib.hid (((hb.out.alloc hb.out.size (.cells #[.int .i64 y.id, .int .i64 y.x0, .int .i64 y.y0, .int .i64 y.x1, .int .i64 y.y1] 35))).drew)
      cases ho : okB y.x0 y.y0 y.x1 y.y1 with
      | true =>
        have hr : Hid (hasE bs m = true) := by
          show hasE bs m = true
          unfold hasE
          rw [hle.out, Int.toNat_natCast, hy.out, ho]
          rfl
        have hg : Hid (getE bs m = y) := Lib.hid ((getE_yes hr.out).trans (by rw [Int.toNat_natCast]; exact hy.out))
        rw [ho] at CB
        replace CB := Lib.hid CB
        clear ho
        go_wp2_with fail
        go_big_region
        all_goals
          go_wp2_with fail
          refine (CB.out _).mono ?_
          rintro e w4 ⟨rfl, hj⟩
          obtain ⟨k0, -⟩ := below_keep hj hs3 _ _ KE.out
          obtain ⟨j0, f0⟩ := below_keep hj hs4 _ _ J3.out
          have hb3 := Lib.hid (hb.out.trans (hj.mono hb.out.size))
          clear hj
          go_wp2
          refine bodyPost_ret (v := .tuple #[.agg #[.int .i64 y.id, .int .i64 y.x0, .int .i64 y.y0, .int .i64 y.x1, .int .i64 y.y1], .bool true]) (by simp [results, Try.results17, go_sem, j0]) rfl ?_
          rw [hr.out, hg.out]
          exact ⟨rfl, (((((hb3.out).setCell (p := ⟨w.heap.size, 0, none⟩) (Nat.le_refl _) _).setCell (p := ⟨w.heap.size, 1, none⟩) (Nat.le_refl _) _).setCell (p := ⟨w.heap.size, 2, none⟩) (Nat.le_refl _) _).setCell (p := ⟨w.heap.size, 3, none⟩) (Nat.le_refl _) _).setCell (p := ⟨w.heap.size, 4, none⟩) (Nat.le_refl _) _⟩
      | false =>
        have hr : Hid (hasE bs m = false) := by
          show hasE bs m = false
          unfold hasE
          rw [Int.toNat_natCast, hy.out, ho, Bool.and_false]
        rw [ho] at CB
        replace CB := Lib.hid CB
        clear ho
        go_wp2_with fail
        go_big_region
        all_goals
          go_wp2_with fail
          refine (CB.out _).mono ?_
          rintro e w4 ⟨rfl, hj⟩
          obtain ⟨j0, f0⟩ := below_keep hj hs4 _ _ J3.out
          have hb3 := Lib.hid (hb.out.trans (hj.mono hb.out.size))
          clear hj
          go_wp2
          refine bodyPost_ret (v := .tuple #[.agg #[.int .i64 0, .int .i64 0, .int .i64 0, .int .i64 0, .int .i64 0], .bool false]) (by simp [results, Try.results17, go_sem, j0]) rfl ?_
          rw [hr.out, getE_no hr.out]
          exact ⟨rfl, (((((hb3.out).setCell (p := ⟨w.heap.size, 0, none⟩) (Nat.le_refl _) _).setCell (p := ⟨w.heap.size, 1, none⟩) (Nat.le_refl _) _).setCell (p := ⟨w.heap.size, 2, none⟩) (Nat.le_refl _) _).setCell (p := ⟨w.heap.size, 3, none⟩) (Nat.le_refl _) _).setCell (p := ⟨w.heap.size, 4, none⟩) (Nat.le_refl _) _⟩
    · have hr : Hid (hasE bs x = false) := by have := HR.out.1.1; exact Lib.hid (hasE_no (by omega))
      go_enter Try.func17, Try.ntmps17
      go_wp2
      refine bodyPost_ret (v := .tuple #[.agg #[.int .i64 0, .int .i64 0, .int .i64 0, .int .i64 0, .int .i64 0], .bool false]) (by simp [results, Try.results17, go_sem]) rfl ?_
      rw [hr.out, getE_no hr.out]
      exact ⟨rfl, B0.out⟩
  · have hr : Hid (hasE bs x = false) := Lib.hid (hasE_no (by omega))
    have hb : decide (x < 0) = true := decide_eq_true (by omega)
    go_enter Try.func17, Try.ntmps17
    go_wp2
    refine bodyPost_ret (v := .tuple #[.agg #[.int .i64 0, .int .i64 0, .int .i64 0, .int .i64 0, .int .i64 0], .bool false]) (by simp [results, Try.results17, go_sem]) rfl ?_
    rw [hr.out, getE_no hr.out]
    exact ⟨rfl, B0.out⟩
end Go.Proofs.Ytfgmjegemlkkkaa
