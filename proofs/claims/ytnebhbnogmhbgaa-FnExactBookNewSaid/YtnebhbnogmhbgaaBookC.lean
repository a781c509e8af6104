/- The laws' own helpers on books: a copy of all pages; equality. -/
import Derived.Test.YtnebhbnogmhbgaaBookS
namespace Go.Proofs.Ytnebhbnogmhbgaa
open Go.RowKit

theorem Try.infoPage : (Try.prog.info? 48).map (fun i => (i.zero, i.size, i.bytes)) = some (some (.agg #[.bool false, .bool false, .slice none 0 0]), 3, 40) := by kernel_rfl
theorem madeP (n : Nat) : (madeCells #[Value.bool false, .bool false, .slice none 0 0] (n * 3)).toList = (List.replicate n zeroPgV).flatMap pgLay.cells := by
  apply List.ext_getElem?
  intro j
  have hr := Nat.div_add_mod j 3
  have hlt := Nat.mod_lt j (show 0 < 3 by omega)
  have hf := flat_at pgLay (List.replicate n zeroPgV) (j / 3) (j % 3) hlt
  rw [show j / 3 * pgLay.sz + j % 3 = j by show j / 3 * 3 + j % 3 = j; omega] at hf
  rw [hf]
  by_cases hj : j < n * 3
  · have h4 : j / 3 < n := by omega
    rw [List.getElem?_replicate, if_pos h4]
    simp only [Option.bind_some]
    rcases (by omega : j % 3 = 0 ∨ j % 3 = 1 ∨ j % 3 = 2) with h | h | h <;> simp [madeCells, hj, h, pgLay, zeroPgV]
  · have h4 : ¬ j / 3 < n := by omega
    rw [List.getElem?_replicate, if_neg h4]
    simp [madeCells, hj]
theorem pg_take {ps qs : List PgV} {k : Nat} {p q : PgV} (hp : ps[k]? = some p) (h : (qs.take k).map PgV.pg = (ps.take k).map PgV.pg) (hk : k < qs.length) (e : q.pg = p.pg) : ((qs.set k q).take (k + 1)).map PgV.pg = (ps.take (k + 1)).map PgV.pg := by
  have hs : (qs.set k q)[k]? = some q := by simp [hk]
  rw [List.take_add_one, hs, List.take_add_one, hp, List.map_append, List.map_append, List.take_set_of_le (Nat.le_refl _), h]
  simp [e]

set_option maxRecDepth 100000 in
set_option maxHeartbeats 1600000 in
/-- laws.toPageS: a copy of all pages, each with its entries, in new memory. -/
theorem toPageS_any (a : Option Addr) (n cap : Nat) (ps : List PgV) (w : World) (h : RdP w a n cap ps) (hn : n ≤ 4398046511104) (hps : ∀ p ∈ ps, p.n ≤ 4398046511104) :
    Calls Try.prog 83 #[.slice a n cap] w fun e w' => ∃ v qs, e = .returned v ∧ qs.map PgV.pg = ps.map PgV.pg ∧ OwnP w' w.heap.size v qs ∧ Below w.heap.size w w' := by
  obtain ⟨i0, hi, hz0, hz1, hz2⟩ := info_parts Try.infoPage
  have HR := Lib.hid h
  have HL := Lib.hid h.1.1.1
  have HN := Lib.hid hps
  clear h hps
  replace hi := Lib.hid hi
  replace hz0 := Lib.hid hz0
  replace hz1 := Lib.hid hz1
  replace hz2 := Lib.hid hz2
  have hnc := HR.out.1.1.2.1
  go_enter Try.func83, Try.ntmps83
  go_wp2_with (at_make; refine wpList_make_full _ rfl _ _ 24 rfl w.heap.size 48 i0 (.agg #[.bool false, .bool false, .slice none 0 0]) 3 Try.underlying24 hi.out hz0.out hz1.out .i64 .i64 (n : Int) (n : Int) n rfl rfl rfl rfl ?_ ?_ ?_ ?_)
  case refine_1 => rw [hz2.out]; omega
  case refine_2 => unfold maxLen; omega
  case refine_3 => exact Nat.le_refl _
  intro w1 hown hgrow
  have hb := Lib.hid (grownNone_below hgrow)
  clear hgrow
  rw [madeP] at hown
  have O1 : Hid (OwnP w1 w.heap.size (.slice (some ⟨w.heap.size, 0, none⟩) n n) (List.replicate n zeroPgV)) := by
    refine Lib.hid ⟨?_, fun p hp => ?_, fun p hp => ?_, fun i j p q _ hp _ => ?_⟩
    · unfold OwnS
      rw [List.length_replicate]
      exact hown
    · obtain ⟨_, rfl⟩ := List.mem_replicate.1 hp
      exact ownS_none _ _ _
    · obtain ⟨_, rfl⟩ := List.mem_replicate.1 hp
      exact (apart_none _ 0 0).1
    · obtain ⟨_, rfl⟩ := List.mem_replicate.1 (List.mem_of_getElem? hp)
      exact (apart_none _ 0 0).2
  clear hown
  go_wp2
  go_loopw [4] (fun i wr => ∃ (k : Nat) (qs : List PgV), k ≤ n ∧ i = .int .i64 (k : Int) ∧ Hid (OwnP wr w.heap.size (.slice (some ⟨w.heap.size, 0, none⟩) n n) qs) ∧ Hid ((qs.take k).map PgV.pg = (ps.take k).map PgV.pg) ∧ Below w.heap.size w wr) (fun i _ => n - (intOf i).toNat)
  case atStart => exact ⟨0, _, Nat.zero_le _, rfl, O1, Lib.hid (by simp), hb.out⟩
  case round =>
    clear O1 hb
    obtain ⟨k, qs, hk, rfl, HO, HT, hB⟩ := hrel
    have HQ := Lib.hid (ownP_len HO.out)
    by_cases hlt : k < n
    · obtain ⟨b, off, p, rfl, hbl, hp, hrd, d0, d1, d2⟩ := rdP_at (HR.out.below hB) hlt
      have HP := Lib.hid hp
      have hpn := HN.out p (List.mem_of_getElem? hp)
      have C := Lib.hid (toPage_any p.used p.leaf p.a p.n p.cap p.xs wr hrd hpn)
      have hlp := Lib.hid hrd.1.1
      have z0 : (0 : Int) ≤ k := by omega
      have z1 : (k : Int) < n := by omega
      clear hp hrd hpn
      go_wp2_with fail
      refine C.out.mono ?_
      rintro e w2 ⟨v, rfl, ho, hj⟩
      obtain ⟨av, cv, rfl, -⟩ := ho.rd
      have HE := Lib.hid ho
      have HO2 := Lib.hid (HO.out.below hj)
      have hB2 := hB.trans (hj.mono hB.size)
      obtain ⟨y, hy, e0, e1, e2⟩ := ownP_at HO2.out hlt
      have hfz := HO2.out.froz
      have hbl2 := HO2.out.lt.2
      have hgr : w.heap.size < wr.heap.size := HO.out.lt.2
      have S3 : Hid (OwnP (((w2.setCell ⟨w.heap.size, k * 3, none⟩ (.bool p.used)).setCell ⟨w.heap.size, k * 3 + 1, none⟩ (.bool p.leaf)).setCell ⟨w.heap.size, k * 3 + 1 + 1, none⟩ (.slice av p.xs.length cv)) w.heap.size (.slice (some ⟨w.heap.size, 0, none⟩) n n) (qs.set k ⟨p.used, p.leaf, av, p.xs.length, cv, p.xs⟩)) := by
        refine Lib.hid (HO2.out.set k ⟨p.used, p.leaf, av, p.xs.length, cv, p.xs⟩ (by rw [HQ.out]; exact hlt) rfl (HE.out.mono (Nat.le_of_lt hgr)) (fun g hg hg' => ?_) (fun i q hi hq g hg hg' => ?_))
        · have h1 := (World.ownsRow.lt HE.out g hg').1
          have e : w.heap.size = g := by simpa [Value.ownBlock] using hg
          omega
        · have h1 := (World.ownsRow.lt HE.out g hg').1
          have h2 := (World.ownsRow.lt (HO.out.ent q (List.mem_of_getElem? hq)) g hg).2
          omega
      have HT2 : Hid (((qs.set k ⟨p.used, p.leaf, av, p.xs.length, cv, p.xs⟩).take (k + 1)).map PgV.pg = (ps.take (k + 1)).map PgV.pg) := Lib.hid (pg_take HP.out HT.out (by rw [HQ.out]; exact hlt) rfl)
      clear ho hj hy
      go_wp2
      go_roundw
      case rel => exact ⟨k + 1, _, by omega, by go_num, S3, HT2, ((hB2.setCell (p := ⟨w.heap.size, k * 3, none⟩) (Nat.le_refl _) _).setCell (p := ⟨w.heap.size, k * 3 + 1, none⟩) (Nat.le_refl _) _).setCell (p := ⟨w.heap.size, k * 3 + 1 + 1, none⟩) (Nat.le_refl _) _⟩
      case measure => simp [intOf]; omega
    · have HF : Hid (qs.map PgV.pg = ps.map PgV.pg) := by
        have := HT.out
        rw [List.take_of_length_le (by rw [HQ.out]; omega), List.take_of_length_le (by rw [HL.out]; omega)] at this
        exact Lib.hid this
      go_wp2
      go_ret
      exact ⟨_, qs, rfl, HF.out, HO.out, hB⟩

set_option maxRecDepth 100000 in
set_option maxHeartbeats 800000 in
/-- laws.toBook: a copy in new memory. -/
theorem toBook_any (root : Int) (a : Option Addr) (n cap : Nat) (ps : List PgV) (w : World) (h : RdP w a n cap ps) (hn : n ≤ 4398046511104) (hps : ∀ p ∈ ps, p.n ≤ 4398046511104) :
    Calls Try.prog 43 #[.agg #[.int .i64 root, .slice a n cap]] w (NewBook root (ps.map PgV.pg) w) := by
  have K := blk_alloc (.cells #[.int .i64 root, .slice none 0 0] 26) (by simp) _ _ (blk_new1 w (.cells #[.int .i64 root, .slice a n cap] 56) #[.int .i64 0, .slice none 0 0] 26)
  have J := blk_new2 w (.cells #[.int .i64 root, .slice a n cap] 56) (.cells #[.int .i64 0, .slice none 0 0] 26) #[.int .i64 root, .slice none 0 0] 26
  have B0 : Below w.heap.size w (((w.alloc (.cells #[.int .i64 root, .slice a n cap] 56)).alloc (.cells #[.int .i64 0, .slice none 0 0] 26)).alloc (.cells #[.int .i64 root, .slice none 0 0] 26)) := (((Below.refl _ _).alloc (Nat.le_refl _) _).alloc (by simp) _).alloc (by simp; omega) _
  replace K := Lib.hid K
  replace J := Lib.hid J
  have C := Lib.hid (toPageS_any a n cap ps _ (h.below B0) hn hps)
  go_enter Try.func43, Try.ntmps43
  go_wp2_with fail
  refine C.out.mono ?_
  rintro e w1 ⟨v, qs, rfl, hq, ho, hb⟩
  obtain ⟨av, cv, rfl⟩ := ho.shape
  have s1 := hb.size
  simp at s1
  obtain ⟨k0, f0⟩ := below_keep hb (by simp) _ _ K.out
  obtain ⟨j0, g0⟩ := below_keep hb (by simp) _ _ J.out
  have F := Lib.hid ho.frame
  have HO := Lib.hid ho
  have HQ := Lib.hid hq
  have B := Lib.hid (B0.trans (hb.mono (by simp; omega)))
  clear ho hb B0 h C hq hps
  have hne : w.heap.size + 1 ≠ w.heap.size + 1 + 1 := by omega
  go_wp2
  refine bodyPost_ret (v := .agg #[.int .i64 root, .slice av qs.length cv]) (by simp [results, Try.results43, go_sem, k0]) rfl ⟨_, qs, rfl, HQ.out, ?_, ?_⟩
  · refine OwnP.mono (base' := w.heap.size + 1 + 1 + 1) ?_ (by omega)
    have O := HO.out
    have F2 := F.out
    simp only [size_alloc3] at O F2
    refine F2 _ _ (fun k h1 h2 => ?_) O
    rw [Below.heap_setCell _ _ _ _ (by intro e; simp at e; omega), Below.heap_setCell _ _ _ _ (by intro e; simp at e; omega), Below.heap_setCell _ _ _ _ (by intro e; simp at e; omega)]
  · exact ((B.out.setCell (p := ⟨w.heap.size + 1 + 1, 1, none⟩) (show w.heap.size ≤ w.heap.size + 1 + 1 by omega) _).setCell (p := ⟨w.heap.size + 1, 0, none⟩) (show w.heap.size ≤ w.heap.size + 1 by omega) _).setCell (p := ⟨w.heap.size + 1, 1, none⟩) (show w.heap.size ≤ w.heap.size + 1 by omega) _

set_option maxRecDepth 100000 in
set_option maxHeartbeats 800000 in
theorem eqPage_same (u c : Bool) (a b : Option Addr) (n c1 c2 : Nat) (xs : List It) (w : World) (h : RdS itLay w a n c1 xs) (h' : RdS itLay w b n c2 xs) (hn : n ≤ 4398046511104) :
    Calls Try.prog 99 #[.agg #[.bool u, .bool c, .slice a n c1], .agg #[.bool u, .bool c, .slice b n c2]] w fun e w' => e = .returned (.bool true) ∧ Below w.heap.size w w' := by
  have B0 : Below w.heap.size w ((w.alloc (.cells #[.bool u, .bool c, .slice a n c1] 48)).alloc (.cells #[.bool u, .bool c, .slice b n c2] 48)) := ((Below.refl _ _).alloc (Nat.le_refl _) _).alloc (by simp) _
  have C := Lib.hid (eqNode_same c a b n c1 c2 xs _ (h.below B0) (h'.below B0) hn)
  go_enter Try.func99, Try.ntmps99
  go_wp2_with fail
  refine C.out.mono ?_
  rintro e w1 ⟨rfl, hb⟩
  replace hb := B0.trans (hb.mono B0.size)
  clear B0
  go_wp2
  go_ret
  exact ⟨rfl, hb⟩
theorem pg_at {ps qs : List PgV} (h : ps.map PgV.pg = qs.map PgV.pg) {k : Nat} {p q : PgV} (hp : ps[k]? = some p) (hq : qs[k]? = some q) : p.used = q.used ∧ p.leaf = q.leaf ∧ p.xs = q.xs := by
  have h1 : (ps.map PgV.pg)[k]? = some p.pg := by rw [List.getElem?_map, hp]; rfl
  have h2 : (qs.map PgV.pg)[k]? = some q.pg := by rw [List.getElem?_map, hq]; rfl
  rw [h, h2] at h1
  have := Option.some.inj h1
  unfold PgV.pg at this
  simp only [Pg.mk.injEq] at this
  exact ⟨this.1.symm, this.2.1.symm, this.2.2.symm⟩

set_option maxRecDepth 100000 in
set_option maxHeartbeats 1600000 in
theorem eqPageS_same (a b : Option Addr) (n m c1 c2 : Nat) (ps qs : List PgV) (w : World) (h : RdP w a n c1 ps) (h' : RdP w b m c2 qs) (hpq : ps.map PgV.pg = qs.map PgV.pg) (hn : n ≤ 4398046511104) (hps : ∀ p ∈ ps, p.n ≤ 4398046511104) :
    Calls Try.prog 79 #[.slice a n c1, .slice b m c2] w fun e w' => e = .returned (.bool true) ∧ Below w.heap.size w w' := by
  have hnm : m = n := by
    have := congrArg List.length hpq
    rw [List.length_map, List.length_map, h.1.1.1, h'.1.1.1] at this
    exact this.symm
  subst hnm
  have HR := Lib.hid h
  have HR' := Lib.hid h'
  have HP := Lib.hid hpq
  have HN := Lib.hid hps
  have hnc := h.1.1.2.1
  have hnc' := h'.1.1.2.1
  clear h h' hpq hps
  go_enter Try.func79, Try.ntmps79
  go_wp2
  go_loopw [5] (fun i wr => ∃ k : Nat, k ≤ m ∧ i = .int .i64 (k : Int) ∧ Below w.heap.size w wr) (fun i _ => m - (intOf i).toNat)
  case atStart => exact ⟨0, Nat.zero_le _, rfl, Below.refl _ _⟩
  case round =>
    obtain ⟨k, hk, rfl, hB⟩ := hrel
    by_cases hlt : k < m
    · obtain ⟨x, off, p, rfl, hbl, hp, hrd, d0, d1, d2⟩ := rdP_at (HR.out.below hB) hlt
      obtain ⟨x', off', q, rfl, hbl', hq, hrd', e0, e1, e2⟩ := rdP_at (HR'.out.below hB) hlt
      obtain ⟨u1, u2, u3⟩ := pg_at HP.out hp hq
      have hpn := HN.out p (List.mem_of_getElem? hp)
      have hnn : p.n = q.n := by rw [← hrd.1.1, ← hrd'.1.1, u3]
      rw [← u1] at e0
      rw [← u2] at e1
      rw [← hnn] at e2 hrd'
      rw [← u3] at hrd'
      have R1 := Lib.hid hrd
      have R2 := Lib.hid hrd'
      have z0 : (0 : Int) ≤ k := by omega
      have z1 : (k : Int) < m := by omega
      clear hp hq hrd hrd' u1 u2 u3 hnn
      go_wp2
      go_region_with ((with_reducible refine (eqPage_same p.used p.leaf p.a q.a p.n p.cap q.cap p.xs _ (R1.out.below (drew_below _)) (R2.out.below (drew_below _)) hpn).mono ?_); rintro e w1 ⟨rfl, hj⟩)
      all_goals
        go_wp2
        go_roundw
        case rel => exact ⟨k + 1, by omega, by go_num, hB.drew.trans (hj.mono hB.size)⟩
        case measure => simp [intOf]; omega
    · go_wp2
      go_ret
      exact ⟨rfl, hB⟩

set_option maxRecDepth 100000 in
set_option maxHeartbeats 400000 in
theorem eqBook_same (root : Int) (a b : Option Addr) (n m c1 c2 : Nat) (ps qs : List PgV) (w : World) (h : RdP w a n c1 ps) (h' : RdP w b m c2 qs) (hpq : ps.map PgV.pg = qs.map PgV.pg) (hn : n ≤ 4398046511104) (hps : ∀ p ∈ ps, p.n ≤ 4398046511104) :
    Calls Try.prog 39 #[.agg #[.int .i64 root, .slice a n c1], .agg #[.int .i64 root, .slice b m c2]] w fun e w' => e = .returned (.bool true) ∧ Below w.heap.size w w' := by
  have B0 : Below w.heap.size w ((w.alloc (.cells #[.int .i64 root, .slice a n c1] 26)).alloc (.cells #[.int .i64 root, .slice b m c2] 26)) := ((Below.refl _ _).alloc (Nat.le_refl _) _).alloc (by simp) _
  have C := Lib.hid (eqPageS_same a b n m c1 c2 ps qs _ (h.below B0) (h'.below B0) hpq hn hps)
  go_enter Try.func39, Try.ntmps39
  go_wp2_with fail
  refine C.out.mono ?_
  rintro e w1 ⟨rfl, hb⟩
  replace hb := B0.trans (hb.mono B0.size)
  clear B0
  go_wp2
  go_ret
  exact ⟨rfl, hb⟩
end Go.Proofs.Ytnebhbnogmhbgaa
