/- The program's hasPage, usesPage, newPage, copyOfNode. -/
import Derived.Test.YtfefggcfeppeiaaGreatQLooksf
import Derived.Deep.RegionLaw
namespace Go.Proofs.YtfefggcfeppeiaaGreat
open Go.RowKit

set_option maxRecDepth 100000 in
set_option maxHeartbeats 400000 in
theorem iHas_yes (root : Int) (a : Option Addr) (n cap m : Nat) (w : World) (h : m < n) :
    Calls Tryz.prog 68 #[.agg #[.int .i64 root, .slice a n cap], .int .i64 m] w fun e w' => e = .returned (.bool true) ∧ Below w.heap.size w w' := by
  have B0 := new_below w (.cells #[.int .i64 root, .slice a n cap] 26)
  have z0 : (0 : Int) ≤ m := by omega
  have z1 : (m : Int) < n := by omega
  go_enter Tryz.func68, Tryz.ntmps68
  go_wp2
  go_ret
  exact ⟨rfl, B0⟩

set_option maxRecDepth 100000 in
set_option maxHeartbeats 400000 in
theorem iHas_no (root i : Int) (a : Option Addr) (n cap : Nat) (w : World) (h : ¬ (0 ≤ i ∧ i ≤ (n : Int) - 1)) :
    Calls Tryz.prog 68 #[.agg #[.int .i64 root, .slice a n cap], .int .i64 i] w fun e w' => e = .returned (.bool false) ∧ Below w.heap.size w w' := by
  have B0 := new_below w (.cells #[.int .i64 root, .slice a n cap] 26)
  by_cases h0 : 0 ≤ i
  · have h1 : ¬ i < (n : Int) := by omega
    clear h
    go_enter Tryz.func68, Tryz.ntmps68
    go_wp2
    go_ret
    exact ⟨rfl, B0⟩
  · clear h
    go_enter Tryz.func68, Tryz.ntmps68
    go_wp2
    go_ret
    exact ⟨rfl, B0⟩

set_option maxRecDepth 100000 in
set_option maxHeartbeats 400000 in
theorem iNewPage_any (w : World) : Calls Tryz.prog 48 #[] w fun e w' => e = .returned (.agg #[.bool true, .bool true, .slice none 0 0]) ∧ Below w.heap.size w w' := by
  go_enter Tryz.func48, Tryz.ntmps48
  go_wp2
  exact bodyPost_ret (v := .agg #[.bool true, .bool true, .slice none 0 0]) (by simp [results, Tryz.results48, go_sem]) rfl ⟨rfl, new_below _ _⟩

set_option maxRecDepth 100000 in
set_option maxHeartbeats 800000 in
theorem iUses_any (root i : Int) (a : Option Addr) (n cap : Nat) (ps : List PgV) (w : World) (h : RdP w a n cap ps) (u : Bool) (hu : (pageAt (ps.map PgV.pg) i).used = u) :
    Calls Tryz.prog 44 #[.agg #[.int .i64 root, .slice a n cap], .int .i64 i] w fun e w' => e = .returned (.bool u) ∧ Below w.heap.size w w' := by
  have B0 := new_below w (.cells #[.int .i64 root, .slice a n cap] 26)
  have K := Lib.hid (Loc.new w #[.int .i64 root, .slice a n cap] 26)
  have HL := Lib.hid h.1.1.1
  have HR := Lib.hid (h.below B0)
  clear h
  by_cases hin : 0 ≤ i ∧ i ≤ (n : Int) - 1
  · obtain ⟨h0, h1⟩ := hin
    obtain ⟨m, rfl⟩ := Int.eq_ofNat_of_zero_le h0
    have hlt : m < n := by omega
    obtain ⟨b, off, p, rfl, hbl, hp, hrd, d0, d1, d2⟩ := rdP_at HR.out hlt
    rw [pageAt_yes hp] at hu
    have hu' : p.used = u := hu
    rw [hu'] at d0
    have C := Lib.hid (iHas_yes root (some ⟨b, off, none⟩) n cap m (w.alloc (.cells #[.int .i64 root, .slice (some ⟨b, off, none⟩) n cap] 26)) hlt)
    have z1 : (m : Int) < n := by omega
    clear hp hrd hu hu'
    go_enter Tryz.func44, Tryz.ntmps44
    go_wp2_with fail
    refine C.out.mono ?_
    rintro e w1 ⟨rfl, hb⟩
    have k1 := (K.out.below hb).2.1 1
    simp at k1
    have d := (hb.cell (p := ⟨b, off + m * 3, none⟩) hbl).trans d0
    clear d0 d1 d2
    go_wp2
    go_ret
    exact ⟨rfl, B0.trans (hb.mono B0.size)⟩
  · rw [pageAt_no (by rw [List.length_map, HL.out]; exact hin)] at hu
    have hu' : false = u := hu
    subst hu'
    have C := Lib.hid (iHas_no root i a n cap (w.alloc (.cells #[.int .i64 root, .slice a n cap] 26)) hin)
    go_enter Tryz.func44, Tryz.ntmps44
    go_wp2_with fail
    refine C.out.mono ?_
    rintro e w1 ⟨rfl, hb⟩
    go_wp2
    go_ret
    exact ⟨rfl, B0.trans (hb.mono B0.size)⟩

end Go.Proofs.YtfefggcfeppeiaaGreat
