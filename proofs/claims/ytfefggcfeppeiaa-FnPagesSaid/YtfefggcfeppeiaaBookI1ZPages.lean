/- The program's hasPage, usesPage, newPage, copyOfNode. -/
import Derived.Test.YtfefggcfeppeiaaQPagesd
import Derived.Deep.RegionLaw
namespace Go.Proofs.Ytfefggcfeppeiaa
open Go.RowKit

set_option maxRecDepth 100000 in
set_option maxHeartbeats 400000 in
theorem iHas_yes (root : Int) (a : Option Addr) (n cap m : Nat) (w : World) (h : m < n) :
    Calls Try.prog 63 #[.agg #[.int .i64 root, .slice a n cap], .int .i64 m] w fun e w' => e = .returned (.bool true) ∧ Below w.heap.size w w' := by
  have B0 := new_below w (.cells #[.int .i64 root, .slice a n cap] 26)
  have z0 : (0 : Int) ≤ m := by omega
  have z1 : (m : Int) < n := by omega
  go_enter Try.func63, Try.ntmps63
  go_wp2
  go_ret
  exact ⟨rfl, B0⟩

set_option maxRecDepth 100000 in
set_option maxHeartbeats 400000 in
theorem iHas_no (root i : Int) (a : Option Addr) (n cap : Nat) (w : World) (h : ¬ (0 ≤ i ∧ i ≤ (n : Int) - 1)) :
    Calls Try.prog 63 #[.agg #[.int .i64 root, .slice a n cap], .int .i64 i] w fun e w' => e = .returned (.bool false) ∧ Below w.heap.size w w' := by
  have B0 := new_below w (.cells #[.int .i64 root, .slice a n cap] 26)
  by_cases h0 : 0 ≤ i
  · have h1 : ¬ i < (n : Int) := by omega
    clear h
    go_enter Try.func63, Try.ntmps63
    go_wp2
    go_ret
    exact ⟨rfl, B0⟩
  · clear h
    go_enter Try.func63, Try.ntmps63
    go_wp2
    go_ret
    exact ⟨rfl, B0⟩

set_option maxRecDepth 100000 in
set_option maxHeartbeats 400000 in
theorem iNewPage_any (w : World) : Calls Try.prog 59 #[] w fun e w' => e = .returned (.agg #[.bool true, .bool true, .slice none 0 0]) ∧ Below w.heap.size w w' := by
  go_enter Try.func59, Try.ntmps59
  go_wp2
  exact bodyPost_ret (v := .agg #[.bool true, .bool true, .slice none 0 0]) (by simp [results, Try.results59, go_sem]) rfl ⟨rfl, new_below _ _⟩

set_option maxRecDepth 100000 in
set_option maxHeartbeats 800000 in
theorem iUses_any (root i : Int) (a : Option Addr) (n cap : Nat) (ps : List PgV) (w : World) (h : RdP w a n cap ps) (u : Bool) (hu : (pageAt (ps.map PgV.pg) i).used = u) :
    Calls Try.prog 89 #[.agg #[.int .i64 root, .slice a n cap], .int .i64 i] w fun e w' => e = .returned (.bool u) ∧ Below w.heap.size w w' := by
  have B0 := new_below w (.cells #[.int .i64 root, .slice a n cap] 26)
  have K := Lib.hid (Loc.new w #[.int .i64 root, .slice a n cap] 26)
  have HL := Lib.hid h.1.1.1
  have HR := Lib.hid (h.below B0)
  clear h
  by_cases hin : 0 ≤ i ∧ i ≤ (n : Int) - 1
  · obtain ⟨h0, h1⟩ := hin
    obtain ⟨m, rfl⟩ := Int.eq_ofNat_of_zero_le h0
    have hlt : m < n := by omega
    obtain ⟨b, off, p, rfl, hbl, hp, hrd, d0, d1, d2⟩ := rdP_at HR.out hlt
    rw [pageAt_yes hp] at hu
    have hu' : p.used = u := hu
    rw [hu'] at d0
    have C := Lib.hid (iHas_yes root (some ⟨b, off, none⟩) n cap m (w.alloc (.cells #[.int .i64 root, .slice (some ⟨b, off, none⟩) n cap] 26)) hlt)
    have z1 : (m : Int) < n := by omega
    clear hp hrd hu hu'
    go_enter Try.func89, Try.ntmps89
    go_wp2_with fail
    refine C.out.mono ?_
    rintro e w1 ⟨rfl, hb⟩
    have k1 := (K.out.below hb).2.1 1
    simp at k1
    have d := (hb.cell (p := ⟨b, off + m * 3, none⟩) hbl).trans d0
    clear d0 d1 d2
    go_wp2
    go_ret
    exact ⟨rfl, B0.trans (hb.mono B0.size)⟩
  · rw [pageAt_no (by rw [List.length_map, HL.out]; exact hin)] at hu
    have hu' : false = u := hu
    subst hu'
    have C := Lib.hid (iHas_no root i a n cap (w.alloc (.cells #[.int .i64 root, .slice a n cap] 26)) hin)
    go_enter Try.func89, Try.ntmps89
    go_wp2_with fail
    refine C.out.mono ?_
    rintro e w1 ⟨rfl, hb⟩
    go_wp2
    go_ret
    exact ⟨rfl, B0.trans (hb.mono B0.size)⟩

set_option maxHeartbeats 3200000 in
set_option maxRecDepth 100000 in
theorem iCopyN_any (b : Bool) (a : Option Addr) (n cap : Nat) (xs : List It) (w : World) (h : RdS itLay w a n cap xs) (hn : n ≤ 1099511627776) :
    Calls Try.prog 64 #[.agg #[.bool b, .slice a n cap]] w (NewNode b xs w) := by
  obtain ⟨i0, hi, hz0, hz1, hz2⟩ := info_parts Try.infoEntry
  replace hi := Lib.hid hi
  replace hz0 := Lib.hid hz0
  replace hz1 := Lib.hid hz1
  replace hz2 := Lib.hid hz2
  obtain ⟨W0, hW0⟩ : ∃ W0, W0 = (w.alloc (.cells #[.bool b, .slice a n cap] 32)).alloc (.cells #[.bool false, .slice none 0 0] 32) := ⟨_, rfl⟩
  have hs0 : W0.heap.size = w.heap.size + 1 + 1 := by subst hW0; simp
  have B0 : Below w.heap.size w W0 := by subst hW0; exact ((Below.refl _ _).alloc (Nat.le_refl _) _).alloc (by simp) _
  have K : Hid (Loc W0 w.heap.size #[.bool b, .slice a n cap]) := by subst hW0; exact (Loc.new w _ _).alloc _
  have J : Hid (Loc W0 (w.heap.size + 1) #[.bool false, .slice none 0 0]) := by
    subst hW0
    have := Loc.new (w.alloc (.cells #[.bool b, .slice a n cap] 32)) #[.bool false, .slice none 0 0] 32
    rw [show (w.alloc (.cells #[.bool b, .slice a n cap] 32)).heap.size = w.heap.size + 1 by simp] at this
    exact this
  have HR := Lib.hid ((h.below B0).alloc (.cells #[] 92))
  have HL := Lib.hid h.1.1
  have B1 := Lib.hid B0
  clear h B0
  go_enter Try.func64, Try.ntmps64
  go_wp2_with fail
  rw [← hW0]
  clear hW0
  obtain ⟨-, k0, f0⟩ := K.out
  have l0 := (K.out.alloc (.cells #[] 92)).2.1
  have hO := Lib.hid (own_nil W0 92 5 (w.heap.size + 1 + 1) W0.heap.size rfl (by omega))
  go_region_law ((refine step_append_src rfl (.tmp 5) (.tmp 7) 30 rfl (w.heap.size + 1 + 1) 92 i0 _ 5 40 Try.underlying30 hi.out hz0.out hz1.out hz2.out rfl (by decide) (.slice (some ⟨W0.heap.size, 0, none⟩) 0 0) 0 [] (by simp [Act.eval]) (World.ownsRow.drew hO.out) a n cap (xs.flatMap itLay.cells) (by simp [Act.eval]) HR.out.len HR.out.nil (fun p hp j u hj => HR.out.news p hp j u hj) (flat_one itLay _) (by unfold maxLen; omega) (by omega) (by simp; omega) ?_); intro v2 w2 o2 g2; obtain ⟨ra, rc, rfl⟩ := owns_shape o2; have K2 := Lib.hid ((K.out.alloc (.cells #[] 92)).drew.grown g2 (fun k hk => by simp [Value.ownBlock] at hk; omega)); have J2 := Lib.hid ((J.out.alloc (.cells #[] 92)).drew.grown g2 (fun k hk => by simp [Value.ownBlock] at hk; omega)); obtain ⟨-, k2, e2⟩ := K2.out; obtain ⟨-, j2, m2⟩ := J2.out)
  all_goals
    have O3 : Hid (OwnS itLay 92 w2 (w.heap.size + 1 + 1) (.slice ra n rc) xs) := by
      show OwnS _ _ _ _ _ _
      unfold OwnS
      rw [HL.out]
      simp only [Nat.zero_add, List.nil_append] at o2
      exact o2
    have B3 := Lib.hid (((B1.out.alloc (by omega) (.cells #[] 92)).drew).grown g2 (by simp; omega) (fun j hj => by simp [Value.ownBlock] at hj; omega))
    clear o2
    go_wp2
    refine bodyPost_ret (v := .agg #[.bool b, .slice ra n rc]) (by simp [results, Try.results64, go_sem, j2]) rfl ⟨_, rfl, ?_, ?_⟩
    · exact OwnS.mono (L := itLay) (ownS_set2 (ownS_set2 O3.out (by omega) _ _) (by omega) _ _) (by omega)
    · exact (B3.out.setCell (p := ⟨w.heap.size + 1, 0, none⟩) (show w.heap.size ≤ w.heap.size + 1 by omega) _).setCell (p := ⟨w.heap.size + 1, 1, none⟩) (show w.heap.size ≤ w.heap.size + 1 by omega) _
end Go.Proofs.Ytfefggcfeppeiaa
