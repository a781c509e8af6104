/- The model's Alloc and Free. -/
import Derived.Test.YtnebhbnogmhbgaaBookNZBookOk
import Derived.Test.YtnebhbnogmhbgaaItemAtZBookOk
import Derived.BigQuiet
import Derived.BigRegion
namespace Go.Proofs.Ytnebhbnogmhbgaa
open Go.RowKit
attribute [local go_sem ↓] Go.wp_at_zero Go.wp_at_succ

def leafPg : Pg := ⟨true, true, []⟩
/-- Alloc: the pages, and the number of the one that was taken; -1 if there is none. -/
def allocV (l : List Pg) : List Pg × Int := match l.findIdx? (fun p => !p.used) with
  | some i => (l.set i leafPg, i)
  | none => if 48 ≤ l.length then (l, -1) else (l ++ [leafPg], l.length)
theorem free_at {ps : List PgV} {k : Nat} {p : PgV} (h : ∀ j q, j < k → ps[j]? = some q → q.used = true) (hp : ps[k]? = some p) (hu : p.used = false) : allocV (ps.map PgV.pg) = ((ps.map PgV.pg).set k leafPg, (k : Int)) := by
  have e : (ps.map PgV.pg).findIdx? (fun p => !p.used) = some k := by
    rw [List.findIdx?_eq_some_iff_getElem]
    obtain ⟨hk, rfl⟩ := List.getElem?_eq_some_iff.1 hp
    refine ⟨by simpa using hk, by simp [PgV.pg, hu], fun j hj => ?_⟩
    have := h j (ps[j]'(by omega)) hj (List.getElem?_eq_getElem _)
    simp [PgV.pg, this]
  unfold allocV
  rw [e]
theorem free_none {ps : List PgV} (h : ∀ j q, j < ps.length → ps[j]? = some q → q.used = true) : allocV (ps.map PgV.pg) = if 48 ≤ ps.length then (ps.map PgV.pg, -1) else (ps.map PgV.pg ++ [leafPg], (ps.length : Int)) := by
  have e : (ps.map PgV.pg).findIdx? (fun p => !p.used) = none := by
    rw [List.findIdx?_eq_none_iff]
    intro x hx
    obtain ⟨q, hq, rfl⟩ := List.mem_map.1 hx
    obtain ⟨j, hj⟩ := List.mem_iff_getElem?.1 hq
    have := h j q (List.getElem?_eq_some_iff.1 hj).1 hj
    simp [PgV.pg, this]
  unfold allocV
  rw [e]
  simp
/-- A book in new memory and a number. -/
def NewBookI (root : Int) (o : List Pg × Int) (w : World) (e : Ending) (w' : World) : Prop :=
  ∃ v ps, e = .returned (.tuple #[.agg #[.int .i64 root, v], .int .i64 o.2]) ∧ ps.map PgV.pg = o.1 ∧ OwnP w' w.heap.size v ps ∧ Below w.heap.size w w'
theorem OwnP.store {w : World} {base q : Nat} {v : Value} {ps : List PgV} (h : OwnP w base v ps) (t : TagT 26 w q) (j : Nat) (u : Value) : OwnP (w.setCell ⟨q, j, none⟩ u) base v ps := by
  have hG := grown_setCell (World.grownBy.refl w (some q)) q j u rfl
  exact ⟨OwnS.kept h.row hG (own_ne (t.ne h.row (by decide))), fun p hp => OwnS.kept (h.ent p hp) hG (own_ne (t.ne (h.ent p hp) (by decide))), h.out, h.pair⟩
theorem bookI_end {w W : World} {q base n vc : Nat} {root : Int} {va : Option Addr} {qs : List PgV} {o : List Pg × Int} {i : Int} (HO : OwnP W base (.slice va n vc) qs) (hq : qs.map PgV.pg = o.1) (hi : o.2 = i) (B : Below w.heap.size w W) (h1 : w.heap.size ≤ q) (h2 : q < base) (hb : w.heap.size ≤ base) :
    NewBookI root o w (.returned (.tuple #[.agg #[.int .i64 root, .slice va n vc], .int .i64 i])) ((W.setCell ⟨q, 0, none⟩ (.int .i64 root)).setCell ⟨q, 1, none⟩ (.slice va n vc)) := by
  obtain ⟨v, ps, he, hp, ho, hB⟩ := book_end (root := root) HO hq B h1 h2 hb
  refine ⟨v, ps, ?_, hp, ho, hB⟩
  simp only [Ending.returned.injEq, Value.agg.injEq] at he
  rw [he, hi]
theorem bookI_drew {w W : World} {root : Int} {o : List Pg × Int} {e : Ending} (h : NewBookI root o w e W) : NewBookI root o w e W.drew := by
  obtain ⟨v, ps, he, hp, ho, hB⟩ := h
  exact ⟨v, ps, he, hp, ho.below (drew_below _), hB.drew⟩

set_option maxRecDepth 100000 in
set_option maxHeartbeats 3200000 in
theorem sAlloc_any (root : Int) (a : Option Addr) (n cap : Nat) (ps : List PgV) (w : World) (h : RdP w a n cap ps) (hn : n ≤ 1099511627776) (hps : ∀ p ∈ ps, p.n ≤ 1099511627776) :
    Calls Try.prog 16 #[.agg #[.int .i64 root, .slice a n cap]] w (NewBookI root (allocV (ps.map PgV.pg)) w) := by
  have hnc := h.1.1.2.1
  have hm := h.1.1.2.2.1
  unfold maxLen at hm
  have HL := Lib.hid h.1.1.1
  obtain ⟨W0, hW0⟩ : ∃ W0, W0 = (w.alloc (.cells #[.int .i64 root, .slice a n cap] 26)).alloc (.cells #[.int .i64 0, .slice none 0 0] 26) := ⟨_, rfl⟩
  have hs0 : W0.heap.size = w.heap.size + 1 + 1 := by subst hW0; simp
  have B0 : Below w.heap.size w W0 := by subst hW0; exact ((Below.refl _ _).alloc (Nat.le_refl _) _).alloc (by simp) _
  have KA : Loc W0 w.heap.size #[.int .i64 root, .slice a n cap] := by subst hW0; exact (Loc.new w _ _).alloc _
  have KR : Loc W0 (w.heap.size + 1) #[.int .i64 0, .slice none 0 0] := by
    subst hW0
    have := Loc.new (w.alloc (.cells #[.int .i64 root, .slice a n cap] 26)) #[.int .i64 0, .slice none 0 0] 26
    rw [show (w.alloc (.cells #[.int .i64 root, .slice a n cap] 26)).heap.size = w.heap.size + 1 by simp] at this
    exact this
  have HR0 := h.below B0
  have CC := Lib.hid (l7Copy_any root a n cap ps W0 HR0 hn hps)
  have HR := Lib.hid HR0
  have a0 := KA.2.1
  replace KA := Lib.hid KA
  replace KR := Lib.hid KR
  replace B0 := Lib.hid B0
  have ka0 := a0 0
  have ka1 := a0 1
  simp at ka0 ka1
  clear h hps HR0 a0
  go_enter Try.func16, Try.ntmps16
  go_wp2_with fail
  rw [← hW0]
  clear hW0
  refine CC.out.mono ?_
  rintro e w3 ⟨v3, qs, rfl, hq, ho, hb⟩
  obtain ⟨va, vc, rfl⟩ := ho.shape
  have hql := len_pg hq
  rw [HL.out] at hql
  rw [hql]
  rw [hql] at ho
  have s3 := hb.size
  have HQ := Lib.hid hq
  have KG := Lib.hid (Loc.new w3 #[.int .i64 root, .slice va n vc] 26)
  have TG := Lib.hid (TagT.new 26 w3 #[.int .i64 root, .slice va n vc])
  have KA3 := Lib.hid ((KA.out.below hb).alloc (.cells #[.int .i64 root, .slice va n vc] 26))
  have KR3 := Lib.hid ((KR.out.below hb).alloc (.cells #[.int .i64 root, .slice va n vc] 26))
  have HR3 := Lib.hid ((HR.out.below hb).below (new_below w3 (.cells #[.int .i64 root, .slice va n vc] 26)))
  have HO := Lib.hid (ho.below (new_below w3 (.cells #[.int .i64 root, .slice va n vc] 26)))
  have HB := Lib.hid ((B0.out.trans (hb.mono (by omega))).alloc (by omega) (.cells #[.int .i64 root, .slice va n vc] 26))
  have HOL := Lib.hid (show ∀ g, (Value.slice va n vc).ownBlock = some g → g < w3.heap.size from fun g hg => (World.ownsRow.lt ho.row g hg).2)
  clear ho hq hb CC KA KR B0 ka0 ka1 HR
  have hs1 : w.heap.size + 1 < W0.heap.size := by omega
  replace hs0 := Lib.hid hs0
  obtain ⟨W4, hW4⟩ : ∃ W4, W4 = w3.alloc (.cells #[.int .i64 root, .slice va n vc] 26) := ⟨_, rfl⟩
  rw [← hW4] at KG TG KA3 KR3 HR3 HO HB
  have hs4 : w3.heap.size < W4.heap.size := by rw [hW4]; simp
  obtain ⟨-, g0, fg⟩ := KG.out
  obtain ⟨-, a0, -⟩ := KA3.out
  obtain ⟨hRl, r0, fr⟩ := KR3.out
  have hRG : w.heap.size + 1 ≠ w3.heap.size := by omega
  go_wp2
  rw [← hW4]
  replace hW4 := Lib.hid hW4
  go_loopw [5] (fun i wr => ∃ k : Nat, k ≤ n ∧ i = .int .i64 (k : Int) ∧ Hid (∀ j q, j < k → ps[j]? = some q → q.used = true) ∧ wr = W4) (fun i _ => n - (intOf i).toNat)
  case atStart => exact ⟨0, Nat.zero_le _, rfl, Lib.hid (fun j q hj => by omega), rfl⟩
  case round =>
    obtain ⟨k, hk, rfl, HU, rfl⟩ := hrel
    by_cases hlt : k < n
    · obtain ⟨b, off, p, rfl, hbl, hp, hrd, d0, d1, d2⟩ := rdP_at HR3.out hlt
      have HP := Lib.hid hp
      have z0 : (0 : Int) ≤ k := by omega
      have z1 : (k : Int) < n := by omega
      clear hp hrd
      cases hu : p.used with
      | true =>
        rw [hu] at d0
        have HU2 : Hid (∀ j q, j < k + 1 → ps[j]? = some q → q.used = true) := Lib.hid (fun j q hj hq => by
          by_cases hjk : j < k
          · exact HU.out j q hjk hq
          · obtain rfl : j = k := by omega
            obtain rfl : p = q := Option.some.inj (HP.out.symm.trans hq)
            exact hu)
        clear hu
        go_wp2
        go_roundw
        case rel => exact ⟨k + 1, by omega, by go_num, HU2, by trivial⟩
        case measure => simp [intOf]; omega
      | false =>
        rw [hu] at d0
        have hv : Hid (allocV (ps.map PgV.pg) = ((ps.map PgV.pg).set k leafPg, (k : Int))) := Lib.hid (free_at HU.out HP.out hu)
        obtain ⟨gb, rfl⟩ : ∃ g, va = some ⟨g, 0, none⟩ := own_head (ownP_row HO.out (ownP_len HO.out)) (by omega)
        have hgb := HO.out.lt
        have hgl := HOL.out gb rfl
        obtain ⟨y, hy, q0, q1, q2⟩ := ownP_at HO.out hlt
        have fz := HO.out.froz
        have P6 : Hid (OwnP (((wr.setCell ⟨gb, k * 3, none⟩ (.bool true)).setCell ⟨gb, k * 3 + 1, none⟩ (.bool true)).setCell ⟨gb, k * 3 + 1 + 1, none⟩ (.slice none 0 0)) W0.heap.size (.slice (some ⟨gb, 0, none⟩) n vc) (qs.set k ⟨true, true, none, 0, 0, []⟩)) :=
          Lib.hid (HO.out.set k ⟨true, true, none, 0, 0, []⟩ (by rw [ownP_len HO.out]; exact hlt) rfl (ownS_none _ _ _) (apart_none _ 0 0).1 (fun _ _ _ _ => (apart_none _ 0 0).1))
        have M6 : Hid ((qs.set k ⟨true, true, none, 0, 0, []⟩).map PgV.pg = (ps.map PgV.pg).set k leafPg) := Lib.hid (map_setP HQ.out)
        have h3 : w.heap.size ≤ gb := by omega
        have B6 := Lib.hid (((HB.out.setCell (p := ⟨gb, k * 3, none⟩) h3 (.bool true)).setCell (p := ⟨gb, k * 3 + 1, none⟩) h3 (.bool true)).setCell (p := ⟨gb, k * 3 + 1 + 1, none⟩) h3 (.slice none 0 0))
        obtain ⟨-, x0, -⟩ := ((KG.out.other (k * 3) (.bool true) (show gb ≠ w3.heap.size by omega)).other (k * 3 + 1) (.bool true) (show gb ≠ w3.heap.size by omega)).other (k * 3 + 1 + 1) (.slice none 0 0) (show gb ≠ w3.heap.size by omega)
        obtain ⟨hR6, y0, fy⟩ := ((KR3.out.other (k * 3) (.bool true) (show gb ≠ w.heap.size + 1 by omega)).other (k * 3 + 1) (.bool true) (show gb ≠ w.heap.size + 1 by omega)).other (k * 3 + 1 + 1) (.slice none 0 0) (show gb ≠ w.heap.size + 1 by omega)
        clear hu hy
        go_wp2
        refine bodyPost_ret (v := .tuple #[.agg #[.int .i64 root, .slice (some ⟨gb, 0, none⟩) n vc], .int .i64 k]) (by simp [results, Try.results16, go_sem, y0]) rfl ?_
        exact bookI_end P6.out (by rw [hv.out]; exact M6.out) (by rw [hv.out]) B6.out (by omega) (by omega) (by omega)
    · obtain rfl : k = n := by omega
      have hf := free_none (ps := ps) (fun j q hj hq => HU.out j q (by rw [HL.out] at hj; exact hj) hq)
      rw [HL.out] at hf
      by_cases h48 : 48 ≤ k
      · rw [if_pos h48] at hf
        have hv := Lib.hid hf
        have z48 : (k : Int) ≥ 48 := by omega
        clear hf
        go_wp2
        refine bodyPost_ret (v := .tuple #[.agg #[.int .i64 root, .slice va k vc], .int .i64 (-1)]) (by simp [results, Try.results16, go_sem, r0]) rfl ?_
        exact bookI_end HO.out (by rw [hv.out]; exact HQ.out) (by rw [hv.out]) HB.out (by omega) (by omega) (by omega)
      · rw [if_neg h48] at hf
        have hv := Lib.hid hf
        have z48 : ¬ (k : Int) ≥ 48 := by omega
        clear hf
        obtain ⟨i0, hi, hz0, hz1, hz2⟩ := info_parts Try.infoPage
        replace hi := Lib.hid hi
        replace hz0 := Lib.hid hz0
        replace hz1 := Lib.hid hz1
        replace hz2 := Lib.hid hz2
        have HQL := Lib.hid (ownP_len HO.out)
        have HNW := Lib.hid (World.news_of_block (cs := #[.bool true, .bool true, .slice none 0 0]) (t := 48) (fr := (0, 0)) (heap_alloc_new wr (.cells #[.bool true, .bool true, .slice none 0 0] 48)))
        have c1 := g0 1
        simp at c1
        have l1 := (World.cell?_alloc_lt wr (.cells #[.bool true, .bool true, .slice none 0 0] 48) ⟨w3.heap.size, 1, none⟩ hs4).trans c1
        go_wp2_with (at_builtin; refine append_src rfl (.tmp 36) (.tmp 39) 24 rfl W0.heap.size 48 i0 _ 3 40 Try.underlying24 hi.out hz0.out hz1.out hz2.out rfl (by decide) (.slice va k vc) k (qs.flatMap pgLay.cells) rfl (World.ownsRow.alloc (ownP_row HO.out HQL.out) _) (some ⟨wr.heap.size, 0, none⟩) 1 1 (pgLay.cells ⟨true, true, none, 0, 0, []⟩) rfl rfl (fun h => by cases h) (fun q hq => by cases hq; exact HNW.out) (pgLay.one _) ?_ ?_ ?_ ?_)
        case refine_1 => unfold maxLen; omega
        case refine_2 => omega
        case refine_3 => first | omega | (simp; omega)
        intro v5 w5 o5 g5
        obtain ⟨a5, c5, rfl⟩ := owns_shape o5
        have P5 : OwnP w5 W0.heap.size (.slice a5 (k + 1) c5) (qs ++ [⟨true, true, none, 0, 0, []⟩]) := OwnP.snoc (w := wr) (w1 := wr.alloc (.cells #[.bool true, .bool true, .slice none 0 0] 48)) HO.out (new_below _ _) (ownS_none _ _ _) (fun g hg => (by cases hg)) (by rw [HQL.out]; exact o5) g5
        have hrow : ∀ j, (Value.slice va k vc).ownBlock = some j → W0.heap.size ≤ j ∧ j ≠ w3.heap.size := fun j hj => ⟨(World.ownsRow.lt HO.out.row j hj).1, TG.out.ne HO.out.row (by decide) j hj⟩
        have L5 := (KG.out.alloc (.cells #[.bool true, .bool true, .slice none 0 0] 48)).grown g5 (fun j hj => (hrow j hj).2)
        have T5 : TagT 26 w5 w3.heap.size := TG.out.of ((g5.block _ (by simp; omega) (fun e => (hrow _ e.symm).2 rfl)).trans (Below.heap_alloc _ _ _ (by omega)))
        have P6 := Lib.hid (P5.store T5 1 (.slice a5 (k + 1) c5))
        have M6 : Hid ((qs ++ [(⟨true, true, none, 0, 0, []⟩ : PgV)]).map PgV.pg = ps.map PgV.pg ++ [leafPg]) := by
          show _ = _
          rw [List.map_append, HQ.out]
          rfl
        have A5 := (KA3.out.alloc (.cells #[.bool true, .bool true, .slice none 0 0] 48)).grown g5 (fun j hj => by have := (hrow j hj).1; omega)
        have R5 := (KR3.out.alloc (.cells #[.bool true, .bool true, .slice none 0 0] 48)).grown g5 (fun j hj => by have := (hrow j hj).1; omega)
        have hsl := g5.size
        try simp at hsl
        have B6 : Hid (Below w.heap.size w (w5.setCell ⟨w3.heap.size, 1, none⟩ (.slice a5 (k + 1) c5))) := Lib.hid (((HB.out.alloc (by omega) (.cells #[.bool true, .bool true, .slice none 0 0] 48)).grown g5 (by simp; omega) (fun j hj => by have := (hrow j hj).1; omega)).setCell (p := ⟨w3.heap.size, 1, none⟩) (show w.heap.size ≤ w3.heap.size by omega) _)
        obtain ⟨hx0, x0, ex⟩ := L5.set 1 (.slice a5 (k + 1) c5) (by show 1 < 2; decide)
        obtain ⟨-, u0, -⟩ := A5.other 1 (.slice a5 (k + 1) c5) (show w3.heap.size ≠ w.heap.size by omega)
        obtain ⟨hy0, y0, fy⟩ := R5.other 1 (.slice a5 (k + 1) c5) (show w3.heap.size ≠ w.heap.size + 1 by omega)
        obtain ⟨-, x5, fx5⟩ := L5
        obtain ⟨-, u5, -⟩ := A5
        obtain ⟨hR5, y5, fy5⟩ := R5
        clear o5 g5 P5 hrow T5 g0 fg a0 r0 fr
        go_wp2_with fail
        go_region
        all_goals
          go_wp2
          refine bodyPost_ret (v := .tuple #[.agg #[.int .i64 root, .slice a5 (k + 1) c5], .int .i64 k]) (by simp [results, Try.results16, go_sem, y0]) rfl ?_
          exact bookI_drew (bookI_end P6.out (by rw [hv.out]; exact M6.out) (by rw [hv.out]) B6.out (by omega) (by omega) (by omega))

/-- Free: the pages of these numbers are unused. -/
def freeV (l : List Pg) (ids : List Int) : List Pg := ids.foldl (fun acc i => putV acc i zeroPg) l
theorem freeV_more {l : List Pg} {ids : List Int} {k : Nat} {i : Int} (h : ids[k]? = some i) : freeV l (ids.take (k + 1)) = putV (freeV l (ids.take k)) i zeroPg := by
  unfold freeV
  rw [List.take_add_one, h, List.foldl_append]
  rfl
theorem OwnP.drew {w : World} {base : Nat} {v : Value} {ps : List PgV} (h : OwnP w base v ps) : OwnP w.drew base v ps := h.below (drew_below _)
theorem putV_no {l : List Pg} {i : Int} {p : Pg} (h : ¬ (0 ≤ i ∧ i ≤ (l.length : Int) - 1)) : putV l i p = l := if_neg h
theorem putV_yes {l : List Pg} {m : Nat} {p : Pg} (h : m < l.length) : putV l m p = l.set m p := by
  unfold putV
  rw [if_pos (by omega), Int.toNat_natCast]

set_option maxRecDepth 100000 in
set_option maxHeartbeats 3200000 in
theorem sFree_any (root : Int) (a : Option Addr) (n cap : Nat) (ps : List PgV) (al : Option Addr) (nl cl : Nat) (ids : List Int) (w : World) (h : RdP w a n cap ps) (hl : RdI .i64 w al nl cl ids) (hn : n ≤ 1099511627776) (hps : ∀ p ∈ ps, p.n ≤ 1099511627776) :
    Calls Try.prog 25 #[.agg #[.int .i64 root, .slice a n cap], .slice al nl cl] w (NewBook root (freeV (ps.map PgV.pg) ids) w) := by
  have hnl := hl.1.2.1
  have hml := hl.1.2.2.1
  unfold maxLen at hml
  have HI := Lib.hid hl
  have HIL := Lib.hid hl.1.1
  clear hl
  have hnc := h.1.1.2.1
  have hm := h.1.1.2.2.1
  unfold maxLen at hm
  have HL := Lib.hid h.1.1.1
  obtain ⟨W0, hW0⟩ : ∃ W0, W0 = (w.alloc (.cells #[.int .i64 root, .slice a n cap] 26)).alloc (.cells #[.int .i64 0, .slice none 0 0] 26) := ⟨_, rfl⟩
  have hs0 : W0.heap.size = w.heap.size + 1 + 1 := by subst hW0; simp
  have B0 : Below w.heap.size w W0 := by subst hW0; exact ((Below.refl _ _).alloc (Nat.le_refl _) _).alloc (by simp) _
  have KA : Loc W0 w.heap.size #[.int .i64 root, .slice a n cap] := by subst hW0; exact (Loc.new w _ _).alloc _
  have KR : Loc W0 (w.heap.size + 1) #[.int .i64 0, .slice none 0 0] := by
    subst hW0
    have := Loc.new (w.alloc (.cells #[.int .i64 root, .slice a n cap] 26)) #[.int .i64 0, .slice none 0 0] 26
    rw [show (w.alloc (.cells #[.int .i64 root, .slice a n cap] 26)).heap.size = w.heap.size + 1 by simp] at this
    exact this
  have HR0 := h.below B0
  have CC := Lib.hid (l7Copy_any root a n cap ps W0 HR0 hn hps)
  have HR := Lib.hid HR0
  have a0 := KA.2.1
  replace KA := Lib.hid KA
  replace KR := Lib.hid KR
  replace B0 := Lib.hid B0
  have ka0 := a0 0
  have ka1 := a0 1
  simp at ka0 ka1
  clear h hps HR0 a0
  go_enter Try.func25, Try.ntmps25
  go_wp2_with fail
  rw [← hW0]
  clear hW0
  refine CC.out.mono ?_
  rintro e w3 ⟨v3, qs, rfl, hq, ho, hb⟩
  obtain ⟨va, vc, rfl⟩ := ho.shape
  have hql := len_pg hq
  rw [HL.out] at hql
  rw [hql]
  rw [hql] at ho
  have s3 := hb.size
  have HQ := Lib.hid hq
  have KG := Lib.hid (Loc.new w3 #[.int .i64 root, .slice va n vc] 26)
  have TG := Lib.hid (TagT.new 26 w3 #[.int .i64 root, .slice va n vc])
  have KA3 := Lib.hid ((KA.out.below hb).alloc (.cells #[.int .i64 root, .slice va n vc] 26))
  have KR3 := Lib.hid ((KR.out.below hb).alloc (.cells #[.int .i64 root, .slice va n vc] 26))
  have HR3 := Lib.hid ((HR.out.below hb).below (new_below w3 (.cells #[.int .i64 root, .slice va n vc] 26)))
  have HO := Lib.hid (ho.below (new_below w3 (.cells #[.int .i64 root, .slice va n vc] 26)))
  have HB := Lib.hid ((B0.out.trans (hb.mono (by omega))).alloc (by omega) (.cells #[.int .i64 root, .slice va n vc] 26))
  have HOL := Lib.hid (show ∀ g, (Value.slice va n vc).ownBlock = some g → g < w3.heap.size from fun g hg => (World.ownsRow.lt ho.row g hg).2)
  clear ho hq hb CC KA KR B0 ka0 ka1 HR
  have hs1 : w.heap.size + 1 < W0.heap.size := by omega
  replace hs0 := Lib.hid hs0
  clear TG HR3
  have hwn : IntKind.i64.wrap ((n : Int) - 1) = (n : Int) - 1 := by rw [IntKind.wrap_i64]; omega
  have hs4 : w3.heap.size < (w3.alloc (.cells #[.int .i64 root, .slice va n vc] 26)).heap.size := by simp
  go_wp2
  go_loopw [6] (fun i wr => ∃ (k : Nat) (rs : List PgV), k ≤ nl ∧ i = .int .i64 (k : Int) ∧ Hid (OwnP wr W0.heap.size (.slice va n vc) rs) ∧ Hid (rs.map PgV.pg = freeV (ps.map PgV.pg) (ids.take k)) ∧ Hid (Loc wr w.heap.size #[.int .i64 root, .slice a n cap]) ∧ Hid (Loc wr (w.heap.size + 1) #[.int .i64 0, .slice none 0 0]) ∧ Hid (Loc wr w3.heap.size #[.int .i64 root, .slice va n vc]) ∧ Hid (Below w.heap.size w wr)) (fun i _ => nl - (intOf i).toNat)
  case atStart => exact ⟨0, qs, Nat.zero_le _, rfl, HO, HQ, KA3, KR3, KG, HB⟩
  case round =>
    clear HO HQ KA3 KR3 KG HB
    obtain ⟨k, rs, hk, rfl, HO, HQ, KA3, KR3, KG, HB⟩ := hrel
    have a0 := KA3.out.2.1
    have g0 := KG.out.2.1
    have hrl : rs.length = n := ownP_len HO.out
    by_cases hlt : k < nl
    · obtain ⟨b, off, rfl, hc⟩ := HI.out.2 (by omega)
      have hck := hc k hlt
      have hbw : b < w.heap.size := World.block_lt_of_cell? w ⟨b, off + k, none⟩ hck
      rw [← HB.out.cell (p := ⟨b, off + k, none⟩) hbw] at hck
      obtain ⟨i, hik⟩ : ∃ i, ids.getD k 0 = i := ⟨_, rfl⟩
      rw [hik] at hck
      have hat : Hid (ids[k]? = some i) := by
        have : k < ids.length := by rw [HIL.out]; exact hlt
        show ids[k]? = some i
        rw [← hik]
        simp [List.getD, this]
      have z0 : (0 : Int) ≤ k := by omega
      have z1 : (k : Int) < nl := by omega
      clear hc hik
      by_cases hin : 0 ≤ i ∧ i ≤ (n : Int) - 1
      · obtain ⟨h0, h1⟩ := hin
        obtain ⟨m, rfl⟩ := Int.eq_ofNat_of_zero_le h0
        have hmn : m < n := by omega
        have z2 : (m : Int) < n := by omega
        obtain ⟨gb, rfl⟩ : ∃ g, va = some ⟨g, 0, none⟩ := own_head (ownP_row HO.out (ownP_len HO.out)) (by omega)
        have hgb := HO.out.lt
        have hgl := HOL.out gb rfl
        obtain ⟨y, hy, q0, q1, q2⟩ := ownP_at HO.out hmn
        have fz := HO.out.froz
        have P6 : Hid (OwnP (((wr.setCell ⟨gb, m * 3, none⟩ (.bool false)).setCell ⟨gb, m * 3 + 1, none⟩ (.bool false)).setCell ⟨gb, m * 3 + 1 + 1, none⟩ (.slice none 0 0)) W0.heap.size (.slice (some ⟨gb, 0, none⟩) n vc) (rs.set m zeroPgV)) :=
          Lib.hid (HO.out.set m zeroPgV (by rw [hrl]; exact hmn) rfl (ownS_none _ _ _) (apart_none _ 0 0).1 (fun _ _ _ _ => (apart_none _ 0 0).1))
        have M6 : Hid ((rs.set m zeroPgV).map PgV.pg = freeV (ps.map PgV.pg) (ids.take (k + 1))) := by
          show _ = _
          rw [freeV_more hat.out, ← HQ.out, putV_yes (by rw [List.length_map, hrl]; exact hmn), List.map_set]
          rfl
        have h3 : w.heap.size ≤ gb := by omega
        have B6 := Lib.hid (((HB.out.setCell (p := ⟨gb, m * 3, none⟩) h3 (.bool false)).setCell (p := ⟨gb, m * 3 + 1, none⟩) h3 (.bool false)).setCell (p := ⟨gb, m * 3 + 1 + 1, none⟩) h3 (.slice none 0 0))
        have G6 := Lib.hid (((KG.out.other (m * 3) (.bool false) (show gb ≠ w3.heap.size by omega)).other (m * 3 + 1) (.bool false) (show gb ≠ w3.heap.size by omega)).other (m * 3 + 1 + 1) (.slice none 0 0) (show gb ≠ w3.heap.size by omega))
        have R6 := Lib.hid (((KR3.out.other (m * 3) (.bool false) (show gb ≠ w.heap.size + 1 by omega)).other (m * 3 + 1) (.bool false) (show gb ≠ w.heap.size + 1 by omega)).other (m * 3 + 1 + 1) (.slice none 0 0) (show gb ≠ w.heap.size + 1 by omega))
        have A6 := Lib.hid (((KA3.out.other (m * 3) (.bool false) (show gb ≠ w.heap.size by omega)).other (m * 3 + 1) (.bool false) (show gb ≠ w.heap.size by omega)).other (m * 3 + 1 + 1) (.slice none 0 0) (show gb ≠ w.heap.size by omega))
        clear hy
        go_wp2
        go_region_with ((with_reducible refine (l1In_yes m 0 ((n : Int) - 1) _ h0 h1).mono ?_); rintro e w4 ⟨rfl, rfl⟩)
        all_goals
          go_wp2
          go_big_region
        all_goals
          go_wp2
          go_roundw
          case rel => exact ⟨k + 1, rs.set m zeroPgV, by omega, by go_num, Lib.hid P6.out.drew.drew, M6, Lib.hid A6.out.drew.drew, Lib.hid R6.out.drew.drew, Lib.hid G6.out.drew.drew, Lib.hid B6.out.drew.drew⟩
          case measure => simp [intOf]; omega
      · have M6 : Hid (rs.map PgV.pg = freeV (ps.map PgV.pg) (ids.take (k + 1))) := by
          show _ = _
          rw [freeV_more hat.out, ← HQ.out, putV_no (by rw [List.length_map, hrl]; exact hin)]
        go_wp2
        go_region_with ((with_reducible refine (l1In_no i 0 ((n : Int) - 1) _ hin).mono ?_); rintro e w4 ⟨rfl, rfl⟩)
        all_goals
          go_wp2
          go_roundw
          case rel => exact ⟨k + 1, rs, by omega, by go_num, Lib.hid HO.out.drew, M6, Lib.hid KA3.out.drew, Lib.hid KR3.out.drew, Lib.hid KG.out.drew, Lib.hid HB.out.drew⟩
          case measure => simp [intOf]; omega
    · have HF : Hid (rs.map PgV.pg = freeV (ps.map PgV.pg) ids) := by
        have := HQ.out
        rw [List.take_of_length_le (by rw [HIL.out]; omega)] at this
        exact Lib.hid this
      obtain ⟨hRl, r0, fr⟩ := KR3.out
      have hRG : w.heap.size + 1 ≠ w3.heap.size := by omega
      go_wp2
      refine bodyPost_ret (v := .agg #[.int .i64 root, .slice va n vc]) (by simp [results, Try.results25, go_sem, r0]) rfl ?_
      exact book_end HO.out HF.out HB.out (by omega) (by omega) (by omega)
end Go.Proofs.Ytnebhbnogmhbgaa
