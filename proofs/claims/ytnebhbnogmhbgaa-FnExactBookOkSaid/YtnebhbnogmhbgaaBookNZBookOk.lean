/- The model's BookNew, NodeAt, Put. -/
import Derived.Test.YtnebhbnogmhbgaaBookEZBookOk
import Derived.Test.YtnebhbnogmhbgaaQBookOka
import Derived.BigRegion
namespace Go.Proofs.Ytnebhbnogmhbgaa
open Go.RowKit

def zeroPg : Pg := ⟨false, false, []⟩
/-- The page of a number, or the zero one. -/
def pageAt (l : List Pg) (i : Int) : Pg := if 0 ≤ i then (l[i.toNat]?).getD zeroPg else zeroPg
theorem pageAt_no {l : List Pg} {i : Int} (h : ¬ (0 ≤ i ∧ i ≤ (l.length : Int) - 1)) : pageAt l i = zeroPg := by
  unfold pageAt
  split
  · rw [List.getElem?_eq_none (by omega)]; rfl
  · rfl
theorem pageAt_yes {ps : List PgV} {m : Nat} {p : PgV} (h : ps[m]? = some p) : pageAt (ps.map PgV.pg) m = p.pg := by
  unfold pageAt
  rw [if_pos (by omega), Int.toNat_natCast, List.getElem?_map, h]
  rfl

set_option maxRecDepth 100000 in
set_option maxHeartbeats 800000 in
theorem sBookNew_any (w : World) : Calls Try.prog 31 #[] w (NewBook 0 [⟨true, true, []⟩] w) := by
  have R := World.ownsRow_lit (base := w.heap.size + 1) (size := 3) (e := 48) (w.alloc (.cells #[.int .i64 0, .slice (some ⟨w.heap.size + 1, 0, none⟩) 1 1] 26)) #[.bool true, .bool true, .slice none 0 0] 1 (by simp) (by simp [maxLen]) rfl
  rw [show (w.alloc (.cells #[.int .i64 0, .slice (some ⟨w.heap.size + 1, 0, none⟩) 1 1] 26)).heap.size = w.heap.size + 1 by simp] at R
  have OP : Hid (OwnP ((w.alloc (.cells #[.int .i64 0, .slice (some ⟨w.heap.size + 1, 0, none⟩) 1 1] 26)).alloc (.cells #[.bool true, .bool true, .slice none 0 0] 48)) (w.heap.size + 1) (.slice (some ⟨w.heap.size + 1, 0, none⟩) 1 1) [⟨true, true, none, 0, 0, []⟩]) := by
    refine Lib.hid ⟨R, fun p hp => ?_, fun p hp => ?_, fun i j p q hij hp hq => ?_⟩
    · obtain rfl := List.mem_singleton.1 hp
      exact ownS_none _ _ _
    · obtain rfl := List.mem_singleton.1 hp
      exact (apart_none _ 0 0).1
    · obtain rfl := List.mem_singleton.1 (List.mem_of_getElem? hp)
      exact (apart_none _ 0 0).2
  have B0 : Hid (Below w.heap.size w ((w.alloc (.cells #[.int .i64 0, .slice (some ⟨w.heap.size + 1, 0, none⟩) 1 1] 26)).alloc (.cells #[.bool true, .bool true, .slice none 0 0] 48))) := Lib.hid (((Below.refl _ _).alloc (Nat.le_refl _) _).alloc (by simp) _)
  clear R
  go_enter Try.func31, Try.ntmps31
  go_wp2
  exact bodyPost_ret (v := .agg #[.int .i64 0, .slice (some ⟨w.heap.size + 1, 0, none⟩) 1 1]) (by simp [results, Try.results31, go_sem]) rfl ⟨_, [⟨true, true, none, 0, 0, []⟩], rfl, rfl, OP.out.mono (by omega), B0.out⟩

set_option maxRecDepth 100000 in
set_option maxHeartbeats 800000 in
theorem sNodeAt_any (root i : Int) (a : Option Addr) (n cap : Nat) (ps : List PgV) (w : World) (h : RdP w a n cap ps) (hi : (Lit.int .i64 i).wf = true) (hps : ∀ p ∈ ps, p.n ≤ 1099511627776) :
    Calls Try.prog 29 #[.agg #[.int .i64 root, .slice a n cap], .int .i64 i] w (NewNode (pageAt (ps.map PgV.pg) i).leaf (pageAt (ps.map PgV.pg) i).xs w) := by
  obtain ⟨l0, u0⟩ := bounds_i64 hi
  have hnc := h.1.1.2.1
  have hm := h.1.1.2.2.1
  unfold maxLen at hm
  have HL := Lib.hid h.1.1.1
  have K := Lib.hid (blk_new1 w (.cells #[.int .i64 root, .slice a n cap] 26) #[.bool false, .slice none 0 0] 32)
  have B0 : Below w.heap.size w ((w.alloc (.cells #[.int .i64 root, .slice a n cap] 26)).alloc (.cells #[.bool false, .slice none 0 0] 32)) := ((Below.refl _ _).alloc (Nat.le_refl _) _).alloc (by simp) _
  have HR := Lib.hid (h.below B0)
  replace B0 := Lib.hid B0
  clear h
  by_cases hin : 0 ≤ i ∧ i ≤ (n : Int) - 1
  · obtain ⟨h0, h1⟩ := hin
    obtain ⟨m, rfl⟩ := Int.eq_ofNat_of_zero_le h0
    obtain ⟨b, off, p, rfl, hbl, hp, hrd, d0, d1, d2⟩ := rdP_at HR.out (show m < n by omega)
    have hv : Hid (pageAt (ps.map PgV.pg) m = p.pg) := Lib.hid (pageAt_yes hp)
    have CC := Lib.hid (l5Copy_any p.leaf p.a p.n p.cap p.xs _ hrd (hps p (List.mem_of_getElem? hp)))
    have z1 : (m : Int) < n := by omega
    clear hp hrd hps
    go_enter Try.func29, Try.ntmps29
    go_wp2_with fail
    refine (l1In_yes m 0 ((n : Int) - 1) _ h0 h1).mono ?_
    rintro e w2 ⟨rfl, rfl⟩
    go_wp2_with fail
    refine CC.out.mono ?_
    rintro e w3 ⟨v, rfl, ho, hb⟩
    obtain ⟨k0, f0⟩ := below_keep hb (by simp) _ _ K.out
    obtain ⟨av, cv, rfl, -⟩ := ho.rd
    have s3 := hb.size
    simp at s3
    have HO := Lib.hid (OwnS.mono (base := w.heap.size + 2) ho (by simp))
    have HB := Lib.hid (B0.out.trans (hb.mono B0.out.size))
    clear ho hb
    go_wp2
    refine bodyPost_ret (v := .agg #[.bool p.leaf, .slice av p.xs.length cv]) (by simp [results, Try.results29, go_sem, k0]) rfl ?_
    rw [hv.out]
    refine ⟨_, rfl, ?_, ?_⟩
    · exact OwnS.mono (L := itLay) (ownS_set2 (ownS_set2 HO.out (by omega) _ _) (by omega) _ _) (by omega)
    · exact (HB.out.setCell (p := ⟨w.heap.size + 1, 0, none⟩) (show w.heap.size ≤ w.heap.size + 1 by omega) _).setCell (p := ⟨w.heap.size + 1, 1, none⟩) (show w.heap.size ≤ w.heap.size + 1 by omega) _
  · have hv : Hid (pageAt (ps.map PgV.pg) i = zeroPg) := Lib.hid (pageAt_no (by rw [List.length_map, HL.out]; exact hin))
    go_enter Try.func29, Try.ntmps29
    go_wp2_with fail
    refine (l1In_no i 0 ((n : Int) - 1) _ hin).mono ?_
    rintro e w2 ⟨rfl, rfl⟩
    go_wp2
    refine bodyPost_ret (v := .agg #[.bool false, .slice none 0 0]) (by simp [results, Try.results29, go_sem]) rfl ?_
    rw [hv.out]
    exact ⟨_, rfl, ownS_none _ _ _, B0.out⟩

/-- A book is handed back. -/
theorem book_end {w W : World} {q base n vc : Nat} {root : Int} {va : Option Addr} {qs : List PgV} {out : List Pg} (HO : OwnP W base (.slice va n vc) qs) (hq : qs.map PgV.pg = out) (B : Below w.heap.size w W) (h1 : w.heap.size ≤ q) (h2 : q < base) (hb : w.heap.size ≤ base) :
    NewBook root out w (.returned (.agg #[.int .i64 root, .slice va n vc])) ((W.setCell ⟨q, 0, none⟩ (.int .i64 root)).setCell ⟨q, 1, none⟩ (.slice va n vc)) := by
  refine ⟨_, qs, rfl, hq, OwnP.mono (base' := base) ?_ hb, (B.setCell (p := ⟨q, 0, none⟩) h1 _).setCell (p := ⟨q, 1, none⟩) h1 _⟩
  refine HO.frame _ _ (fun j h3 h4 => ?_) HO
  rw [Below.heap_setCell _ _ _ _ (by intro e; simp at e; omega), Below.heap_setCell _ _ _ _ (by intro e; simp at e; omega)]
theorem map_setP {ps qs : List PgV} {m : Nat} {x : PgV} (h : qs.map PgV.pg = ps.map PgV.pg) : (qs.set m x).map PgV.pg = (ps.map PgV.pg).set m x.pg := by rw [List.map_set, h]
/-- A page is written over another. -/
def putV (l : List Pg) (i : Int) (p : Pg) : List Pg := if 0 ≤ i ∧ i ≤ (l.length : Int) - 1 then l.set i.toNat p else l
theorem len_pg {ps qs : List PgV} (h : qs.map PgV.pg = ps.map PgV.pg) : qs.length = ps.length := by
  have := congrArg List.length h
  simpa using this

set_option maxRecDepth 100000 in
set_option maxHeartbeats 3200000 in
theorem sPut_any (root i : Int) (a : Option Addr) (n cap : Nat) (ps : List PgV) (b : Bool) (a' : Option Addr) (n' cap' : Nat) (xs : List It) (w : World) (h : RdP w a n cap ps) (h' : RdS itLay w a' n' cap' xs) (hi : (Lit.int .i64 i).wf = true) (hn : n ≤ 1099511627776) (hn' : n' ≤ 1099511627776) (hps : ∀ p ∈ ps, p.n ≤ 1099511627776) :
    Calls Try.prog 23 #[.agg #[.int .i64 root, .slice a n cap], .int .i64 i, .agg #[.bool b, .slice a' n' cap']] w (NewBook root (putV (ps.map PgV.pg) i ⟨true, b, xs⟩) w) := by
  obtain ⟨l0, u0⟩ := bounds_i64 hi
  have hnc := h.1.1.2.1
  have hm := h.1.1.2.2.1
  unfold maxLen at hm
  have HL := Lib.hid h.1.1.1
  obtain ⟨W0, hW0⟩ : ∃ W0, W0 = ((w.alloc (.cells #[.int .i64 root, .slice a n cap] 26)).alloc (.cells #[.bool b, .slice a' n' cap'] 32)).alloc (.cells #[.int .i64 0, .slice none 0 0] 26) := ⟨_, rfl⟩
  have hs0 : W0.heap.size = w.heap.size + 1 + 1 + 1 := by subst hW0; simp
  have B0 : Below w.heap.size w W0 := by subst hW0; exact (((Below.refl _ _).alloc (Nat.le_refl _) _).alloc (by simp) _).alloc (by simp; omega) _
  have KA : Loc W0 w.heap.size #[.int .i64 root, .slice a n cap] := by subst hW0; exact ((Loc.new w _ _).alloc _).alloc _
  have KN : Loc W0 (w.heap.size + 1) #[.bool b, .slice a' n' cap'] := by
    subst hW0
    have := (Loc.new (w.alloc (.cells #[.int .i64 root, .slice a n cap] 26)) #[.bool b, .slice a' n' cap'] 32).alloc (.cells #[.int .i64 0, .slice none 0 0] 26)
    rw [show (w.alloc (.cells #[.int .i64 root, .slice a n cap] 26)).heap.size = w.heap.size + 1 by simp] at this
    exact this
  have KR : Loc W0 (w.heap.size + 1 + 1) #[.int .i64 0, .slice none 0 0] := by
    subst hW0
    have := Loc.new ((w.alloc (.cells #[.int .i64 root, .slice a n cap] 26)).alloc (.cells #[.bool b, .slice a' n' cap'] 32)) #[.int .i64 0, .slice none 0 0] 26
    rw [show ((w.alloc (.cells #[.int .i64 root, .slice a n cap] 26)).alloc (.cells #[.bool b, .slice a' n' cap'] 32)).heap.size = w.heap.size + 1 + 1 by simp] at this
    exact this
  have CC := Lib.hid (l7Copy_any root a n cap ps W0 (h.below B0) hn hps)
  have HX := Lib.hid (h'.below B0)
  obtain ⟨-, a0, fa⟩ := KA
  have hW := Lib.hid hW0
  have K3 := Lib.hid (And.intro KN KR)
  have KA : Hid (Loc W0 w.heap.size #[.int .i64 root, .slice a n cap]) := Lib.hid ⟨by omega, a0, fa⟩
  replace B0 := Lib.hid B0
  clear h h' hps KN KR fa
  have ka0 := a0 0
  have ka1 := a0 1
  simp at ka0 ka1
  go_enter Try.func23, Try.ntmps23
  go_wp2_with fail
  rw [← hW0]
  clear hW0
  refine CC.out.mono ?_
  rintro e w3 ⟨v3, qs, rfl, hq, ho, hb⟩
  obtain ⟨va, vc, rfl⟩ := ho.shape
  have hql := len_pg hq
  rw [HL.out] at hql
  rw [hql]
  rw [hql] at ho
  have s3 := hb.size
  have HQ := Lib.hid hq
  have KG := Lib.hid (Loc.new w3 #[.int .i64 root, .slice va n vc] 26)
  have KA3 := Lib.hid ((KA.out.below hb).alloc (.cells #[.int .i64 root, .slice va n vc] 26))
  have KN3 := Lib.hid ((K3.out.1.below hb).alloc (.cells #[.int .i64 root, .slice va n vc] 26))
  have KR3 := Lib.hid ((K3.out.2.below hb).alloc (.cells #[.int .i64 root, .slice va n vc] 26))
  have HO := Lib.hid (ho.below (new_below w3 (.cells #[.int .i64 root, .slice va n vc] 26)))
  have HX3 := Lib.hid ((HX.out.below hb).below (new_below w3 (.cells #[.int .i64 root, .slice va n vc] 26)))
  have HB := Lib.hid ((B0.out.trans (hb.mono (by omega))).alloc (by omega) (.cells #[.int .i64 root, .slice va n vc] 26))
  have HOL := Lib.hid (show ∀ g, (Value.slice va n vc).ownBlock = some g → g < w3.heap.size from fun g hg => (World.ownsRow.lt ho.row g hg).2)
  have HEL := Lib.hid (show ∀ q ∈ qs, ∀ g, q.sl.ownBlock = some g → g < w3.heap.size from fun q hq g hg => (World.ownsRow.lt (ho.ent q hq) g hg).2)
  clear ho hq hb CC K3 KA HX B0 a0 ka0 ka1
  obtain ⟨-, g0, fg⟩ := KG.out
  obtain ⟨-, a0, -⟩ := KA3.out
  obtain ⟨hNl, n0, -⟩ := KN3.out
  obtain ⟨hRl, r0, fr⟩ := KR3.out
  have hRG : w.heap.size + 1 + 1 ≠ w3.heap.size := by omega
  by_cases hin : 0 ≤ i ∧ i ≤ (n : Int) - 1
  · obtain ⟨h0, h1⟩ := hin
    obtain ⟨m, rfl⟩ := Int.eq_ofNat_of_zero_le h0
    have hmn : m < n := by omega
    have hv : Hid (putV (ps.map PgV.pg) m ⟨true, b, xs⟩ = (ps.map PgV.pg).set m ⟨true, b, xs⟩) := by
      show putV _ _ _ = _
      unfold putV
      rw [if_pos (by rw [List.length_map, HL.out]; exact ⟨h0, h1⟩), Int.toNat_natCast]
    obtain ⟨gb, rfl⟩ : ∃ g, va = some ⟨g, 0, none⟩ := own_head (ownP_row HO.out (ownP_len HO.out)) (by omega)
    have hgb := HO.out.lt.1
    have hgl := HOL.out gb rfl
    have z1 : (m : Int) < n := by omega
    have CC := Lib.hid (l5Copy_any b a' n' cap' xs ((w3.alloc (.cells #[.int .i64 root, .slice (some ⟨gb, 0, none⟩) n vc] 26))).drew (HX3.out.below (drew_below _)) hn')
    have hrow := Lib.hid (HO.out.below (drew_below _))
    have e1 := g0 1
    simp at e1
    have nn0 := n0 0
    have nn1 := n0 1
    simp at nn0 nn1
    go_wp2_with fail
    refine (l1In_yes m 0 ((n : Int) - 1) _ h0 h1).mono ?_
    rintro e w4 ⟨rfl, rfl⟩
    go_wp2_with fail
    go_region_law (refine step_go rfl 68 _ _ rfl #[.agg #[.bool b, .slice a' n' cap']] (by first | (simp [Act.eval]; done) | (simp [Act.eval, Act.put]; done)) (enters_of Try.func68 (by kernel_rfl) rfl) (R := fun v w' => ∃ u, v = .agg #[.bool b, u] ∧ OwnS itLay 91 w' ((w3.alloc (.cells #[.int .i64 root, .slice (some ⟨gb, 0, none⟩) n vc] 26))).drew.heap.size u xs ∧ Below ((w3.alloc (.cells #[.int .i64 root, .slice (some ⟨gb, 0, none⟩) n vc] 26))).drew.heap.size ((w3.alloc (.cells #[.int .i64 root, .slice (some ⟨gb, 0, none⟩) n vc] 26))).drew w') (CC.out.mono (fun e w' ⟨u, he, o, bb⟩ => ⟨_, he, u, rfl, o, bb⟩)) ?_; rintro v w5 ⟨u5, rfl, o5, b5⟩; obtain ⟨a5, c5, rfl, -⟩ := OwnS.rd o5; have P5 := Lib.hid (hrow.out.below b5); obtain ⟨y, hy, q0, q1, q2⟩ := ownP_at P5.out hmn; have fz := P5.out.froz; have L5 := Lib.hid ((KG.out.drew).below b5); have l5 := L5.out.2.1 1; simp at l5; have R5 := Lib.hid ((KR3.out.drew).below b5); have B5 := Lib.hid b5; have O5 := Lib.hid o5; have hgl5 := P5.out.lt.2; clear o5 b5 hy)
    all_goals
      have s5 := B5.out.size
      have e0 : ((w3.alloc (.cells #[.int .i64 root, .slice (some ⟨gb, 0, none⟩) n vc] 26))).drew.heap.size = w3.heap.size + 1 := by show ((w3.alloc (.cells #[.int .i64 root, .slice (some ⟨gb, 0, none⟩) n vc] 26))).heap.size = _; simp
      have P6 : Hid (OwnP (((w5.setCell ⟨gb, m * 3, none⟩ (.bool true)).setCell ⟨gb, m * 3 + 1, none⟩ (.bool b)).setCell ⟨gb, m * 3 + 1 + 1, none⟩ (.slice a5 xs.length c5)) W0.heap.size (.slice (some ⟨gb, 0, none⟩) n vc) (qs.set m ⟨true, b, a5, xs.length, c5, xs⟩)) := by
        have ho : ∀ g, (PgV.sl ⟨true, b, a5, xs.length, c5, xs⟩).ownBlock = some g → w3.heap.size + 1 ≤ g := fun g hg => by
          have := (World.ownsRow.lt O5.out g hg).1
          omega
        refine Lib.hid (P5.out.set m ⟨true, b, a5, xs.length, c5, xs⟩ (by rw [ownP_len P5.out]; exact hmn) rfl (O5.out.mono (by omega)) (fun g h3 h4 => ?_) (fun j q _ hq g h3 h4 => ?_))
        · have h5 := ho g h4
          have e : gb = g := by simpa [Value.ownBlock] using h3
          omega
        · have h5 := ho g h4
          have h6 := HEL.out q (List.mem_of_getElem? hq) g h3
          omega
      have M6 : Hid ((qs.set m ⟨true, b, a5, xs.length, c5, xs⟩).map PgV.pg = (ps.map PgV.pg).set m ⟨true, b, xs⟩) := Lib.hid (map_setP HQ.out)
      have B6 : Hid (Below w.heap.size w (((w5.setCell ⟨gb, m * 3, none⟩ (.bool true)).setCell ⟨gb, m * 3 + 1, none⟩ (.bool b)).setCell ⟨gb, m * 3 + 1 + 1, none⟩ (.slice a5 xs.length c5))) := by
        have h3 : w.heap.size ≤ gb := by omega
        exact Lib.hid (((((HB.out.drew).trans (B5.out.mono (by omega))).setCell (p := ⟨gb, m * 3, none⟩) h3 _).setCell (p := ⟨gb, m * 3 + 1, none⟩) h3 _).setCell (p := ⟨gb, m * 3 + 1 + 1, none⟩) h3 _)
      have G6 := ((L5.out.other (m * 3) (.bool true) (show gb ≠ w3.heap.size by omega)).other (m * 3 + 1) (.bool b) (show gb ≠ w3.heap.size by omega)).other (m * 3 + 1 + 1) (.slice a5 xs.length c5) (show gb ≠ w3.heap.size by omega)
      have R6 := ((R5.out.other (m * 3) (.bool true) (show gb ≠ w.heap.size + 1 + 1 by omega)).other (m * 3 + 1) (.bool b) (show gb ≠ w.heap.size + 1 + 1 by omega)).other (m * 3 + 1 + 1) (.slice a5 xs.length c5) (show gb ≠ w.heap.size + 1 + 1 by omega)
      obtain ⟨-, x0, -⟩ := G6
      obtain ⟨hR6, y0, fy⟩ := R6
      go_wp2
      refine bodyPost_ret (v := .agg #[.int .i64 root, .slice (some ⟨gb, 0, none⟩) n vc]) (by simp [results, Try.results23, go_sem, y0]) rfl ?_
      rw [hv.out]
      exact book_end P6.out M6.out B6.out (by omega) (by omega) (by omega)
  · have hv : Hid (putV (ps.map PgV.pg) i ⟨true, b, xs⟩ = ps.map PgV.pg) := Lib.hid (if_neg (by rw [List.length_map, HL.out]; exact hin))
    go_wp2_with fail
    refine (l1In_no i 0 ((n : Int) - 1) _ hin).mono ?_
    rintro e w4 ⟨rfl, rfl⟩
    go_wp2
    refine bodyPost_ret (v := .agg #[.int .i64 root, .slice va n vc]) (by simp [results, Try.results23, go_sem, r0]) rfl ?_
    rw [hv.out]
    exact book_end HO.out HQ.out HB.out (by omega) (by omega) (by omega)
end Go.Proofs.Ytnebhbnogmhbgaa
