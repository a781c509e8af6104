/- The program's reachableItems: what it passes on, and what it keeps. -/
import Derived.Test.YtfefggcfeppeiaaGreatKpBZLooks
import Derived.Test.YtfefggcfeppeiaaGreatLookI2ZLooks
import Derived.Test.YtfefggcfeppeiaaGreatNodeI3ZLooks
import Derived.RangeFuncLeaves
namespace Go.Proofs.YtfefggcfeppeiaaGreat
open Go.RowKit Go.Shelf
attribute [local go_sem] Oper.semAt_some

/-- An item, as it is passed on. -/
def itEnc (x : It) : Array Value := #[.agg #[.int .i64 x.id, .int .i64 x.x0, .int .i64 x.y0, .int .i64 x.x1, .int .i64 x.y1]]
theorem pre_all {r : List Int} {f : Int → List It} {k j : Nat} {y : Int} {x : It} (hy : r[k]? = some y) (hx : (f y)[j]? = some x) : ∃ t, (r.take k).flatMap f ++ (f y).take j ++ [x] ++ t = r.flatMap f := by
  have h1 : r = r.take k ++ y :: r.drop (k + 1) := by
    have hk : k < r.length := by
      rcases Nat.lt_or_ge k r.length with h | h
      · exact h
      · rw [List.getElem?_eq_none h] at hy; cases hy
    rw [List.getElem?_eq_getElem hk] at hy
    have e : r[k] = y := by simpa using hy
    rw [← e, ← List.drop_eq_getElem_cons hk, List.take_append_drop]
  have h2 : f y = (f y).take j ++ x :: (f y).drop (j + 1) := by
    have hk : j < (f y).length := by
      rcases Nat.lt_or_ge j (f y).length with h | h
      · exact h
      · rw [List.getElem?_eq_none h] at hx; cases hx
    rw [List.getElem?_eq_getElem hk] at hx
    have e : (f y)[j] = x := by simpa using hx
    rw [← e, ← List.drop_eq_getElem_cons hk, List.take_append_drop]
  refine ⟨(f y).drop (j + 1) ++ (r.drop (k + 1)).flatMap f, ?_⟩
  have h3 := congrArg (List.flatMap f) h1
  rw [List.flatMap_append, List.flatMap_cons] at h3
  rw [h3]
  have h4 : f y ++ (r.drop (k + 1)).flatMap f = ((f y).take j ++ x :: (f y).drop (j + 1)) ++ (r.drop (k + 1)).flatMap f := by rw [← h2]
  rw [h4]
  simp [List.append_assoc]

/-- What the iterator holds between two rounds. -/
structure ItS (w0 : World) (B q : Nat) (root : Int) (a : Option Addr) (n cap : Nat) (base : Nat) (va : Option Addr) (vc : Nat) (r : List Int) (W : World) : Prop where
  bk : HeldB B W q #[.int .i64 root, .slice a n cap] 26
  row : HeldRow B W base 3 1 (.slice va r.length vc) r.length (r.map (Value.int .i64))
  below : Below w0.heap.size w0 W
  bd : Bd B W
  lt : B < W.heap.size
theorem ItS.kp {w0 W W' : World} {B q : Nat} {root : Int} {a : Option Addr} {n cap base : Nat} {va : Option Addr} {vc : Nat} {r : List Int} (h : ItS w0 B q root a n cap base va vc r W) (hk : KpB w0.heap.size B W W') : ItS w0 B q root a n cap base va vc r W' :=
  ⟨h.bk.kp hk, h.row.kp hk, h.below.trans hk.below, hk.lt h.bd, Nat.lt_of_lt_of_le h.lt hk.below.size⟩
theorem ItS.all {w0 W W' : World} {B q : Nat} {root : Int} {a : Option Addr} {n cap base : Nat} {va : Option Addr} {vc : Nat} {r : List Int} (h : ItS w0 B q root a n cap base va vc r W) (hk : Below W.heap.size W W') : ItS w0 B q root a n cap base va vc r W' := h.kp (KpB.all hk h.below.size h.lt)

set_option maxRecDepth 100000 in
set_option maxHeartbeats 3200000 in
theorem items1_any (root : Int) (a : Option Addr) (n cap : Nat) (ps : List PgV) (w0 : World) (h : RdP w0 a n cap ps) (hn : n ≤ 1048576) (hp : ∀ p ∈ ps, p.n ≤ 1048576) (ht : totG (ps.map PgV.pg) ≤ 1048576) (B q : Nat) (w : World)
    (hq : HeldB B w q #[.int .i64 root, .slice a n cap] 26) (hw : Below w0.heap.size w0 w) (hbd : Bd B w) (hB : B < w.heap.size) :
    SeqO Tryz.prog 62 #[.pointer (some ⟨q, 0, none⟩)] itEnc (KpB w0.heap.size B) (fun xs => xs = allV (ps.map PgV.pg) root) (fun pre => pre <+: allV (ps.map PgV.pg) root) (allV (ps.map PgV.pg) root).length w := by
  intro l J Jx W hW hJ hJx hY h0
  have HRd := Lib.hid h
  have HPS := Lib.hid hp
  have HL := Lib.hid h.1.1.1
  have hnc := h.1.1.2.1
  have hm := h.1.1.2.2.1
  unfold maxLen at hm
  have hq1 := hq.below hW hB
  have hw1 := hw.trans (hW.mono hw.size)
  have hbd1 := hbd.below hW hB
  have hB1 : B < W.heap.size := Nat.lt_of_lt_of_le hB hW.size
  have hJ' := hJ
  replace hJ := Lib.hid hJ
  replace hJx := Lib.hid hJx
  obtain ⟨r, hr⟩ : ∃ r, leavesV (ps.map PgV.pg) root = r := ⟨_, rfl⟩
  have HALL : Hid (r.flatMap (fun i => (pageAt (ps.map PgV.pg) i).xs) = allV (ps.map PgV.pg) root) := by unfold allV; rw [hr]; exact Lib.hid rfl
  have HLF : Hid (∀ y ∈ r, (pageAt (ps.map PgV.pg) y).leaf = true ∧ 0 ≤ y ∧ y < (n : Int)) := by
    rw [← hr]
    exact Lib.hid (fun y hy => by have := leaves_leaf hy; rw [List.length_map, HL.out] at this; exact this)
  have hrl : r.length ≤ n := by
    have := leaves_len (ps.map PgV.pg) root
    rw [hr, List.length_map, HL.out] at this
    exact this
  have C := Lib.hid (iLeaves_any root a n cap ps W (h.below hw1) hn hp ht)
  rw [hr] at C
  have hb := hq1.loc.2.1
  have hb0 := hb 0
  have hb1 := hb 1
  simp at hb0 hb1
  replace hq1 := Lib.hid hq1
  replace hY := Lib.hid hY
  replace hw1 := Lib.hid hw1
  replace hbd1 := Lib.hid hbd1
  replace h0 := Lib.hid h0
  clear h hp hr hb hq hw hbd hW hJ'
  refine (callsIn_wide (n := 4)).1 ?_
  refine callsIn_of_wp Tryz.func62 rfl trivial ?_ rfl
  simp only [Tryz.ntmps62, List.size_toArray, List.length_cons, List.length_nil, Nat.reduceAdd, Nat.reduceSub, Array.replicate_succ, Array.replicate_zero, List.push_toArray, List.append_toArray, List.nil_append, List.cons_append]
  gi_wp2_with fail
  refine ⟨trivial, (callsIn_wide.2 C.out).mono ?_⟩
  rintro e w1 ⟨v1, rfl, o1, b1⟩
  obtain ⟨va, vc, rfl, -⟩ := Own.rd o1
  have I1 : Hid (ItS w0 B q root a n cap W.heap.size va vc r w1) := Lib.hid ⟨hq1.out.below b1 hB1, HeldRow.new hbd1.out hB1 b1 o1, hw1.out.trans (b1.mono hw1.out.size), hbd1.out.below b1 hB1, Nat.lt_of_lt_of_le hB1 b1.size⟩
  have J1 := Lib.hid (OwnFrom.below hJ.out h0.out b1)
  have hs1 := b1.size
  clear o1 b1 C hb0 hb1 hq1 hbd1 h0
  gi_wp2_with fail
  gi_loopw [10] (fun i wr => ∃ k : Nat, k ≤ r.length ∧ i = .int .i64 (k : Int) ∧ Hid (J ((r.take k).flatMap (fun i => (pageAt (ps.map PgV.pg) i).xs)) wr) ∧ Hid (ItS w0 B q root a n cap W.heap.size va vc r wr) ∧ W.heap.size ≤ wr.heap.size) (fun i _ => r.length - (intOf i).toNat)
  case atStart => exact ⟨0, Nat.zero_le _, rfl, J1, I1, hs1⟩
  case round =>
    clear J1 I1 hs1
    obtain ⟨k, hk, rfl, HJ, HI, hsz⟩ := hrel
    by_cases hlt : k < r.length
    · obtain ⟨y, hy⟩ : ∃ y, r[k]? = some y := ⟨_, List.getElem?_eq_getElem hlt⟩
      obtain ⟨hlf, hyr⟩ := HLF.out y (List.mem_of_getElem? hy)
      obtain ⟨m, rfl⟩ := Int.eq_ofNat_of_zero_le hyr.1
      have hmn : (m : Int) < n := hyr.2
      obtain ⟨g, hva⟩ := own_head HI.out.row.own (by omega)
      subst hva
      have ck := HI.out.row.own.cellAt k (by omega)
      rw [List.getElem?_map, hy] at ck
      simp only [Option.map_some] at ck
      obtain ⟨pb, poff, p, hpa, hpl, hp, hprd, d0, d1, d2⟩ := rdP_at (HRd.out.below HI.out.below) (show m < n by omega)
      have hpg : pageAt (ps.map PgV.pg) m = p.pg := pageAt_yes hp
      have hlf2 : p.leaf = true := by rw [hpg] at hlf; exact hlf
      have hpn := HPS.out p (List.mem_of_getElem? hp)
      have hxs : (pageAt (ps.map PgV.pg) m).xs = p.xs := by rw [hpg]; rfl
      have HPL := Lib.hid hprd.1.1
      have HY := Lib.hid hy
      have HXS := Lib.hid hxs
      have C2 := Lib.hid (iItemsOf_leaf p.a p.n p.cap p.xs wr hprd (by omega))
      rw [hlf2] at d1
      have hb := HI.out.bk.loc.2.1 1
      simp at hb
      rw [hpa] at hb
      have z3 : (k : Int) < r.length := by omega
      have z4 : (0 : Int) ≤ k := by omega
      have z6 : (0 : Int) ≤ m := by omega
      replace hpa := Lib.hid hpa
      clear hp hprd hpg hlf hlf2 hyr d0 hy hxs
      gi_wp2_with fail
      refine ⟨trivial, (callsIn_wide.2 C2.out).mono ?_⟩
      rintro e w2 ⟨v2, rfl, o2, b2⟩
      obtain ⟨a2, c2, rfl, -⟩ := OwnS.rd o2
      have hl2 : p.xs.length = p.n := HPL.out
      have ow2 : w2.ownsRow wr.heap.size 47 5 (.slice a2 p.n c2) p.n (p.xs.flatMap itLay.cells) := by
        have := o2
        unfold OwnS at this
        rw [hl2] at this
        exact this
      have HR2 := Lib.hid (HeldRow.new HI.out.bd HI.out.lt b2 ow2)
      have HI2 := Lib.hid (HI.out.all b2)
      have J2 := Lib.hid (OwnFrom.below hJ.out HJ.out b2)
      have hsz2 : W.heap.size ≤ w2.heap.size := Nat.le_trans hsz b2.size
      rw [hl2]
      obtain ⟨base2, hbase2⟩ : ∃ x, x = wr.heap.size := ⟨_, rfl⟩
      rw [← hbase2] at HR2
      clear o2 ow2 b2 C2 hb d1 d2 ck hpl HI HJ hsz hbase2 hl2
      gi_wp2_with fail
      gi_loopw [22] (fun i wr => ∃ j : Nat, j ≤ p.n ∧ i = .int .i64 (j : Int) ∧ Hid (J ((r.take k).flatMap (fun i => (pageAt (ps.map PgV.pg) i).xs) ++ p.xs.take j) wr) ∧ Hid (ItS w0 B q root a n cap W.heap.size (some ⟨g, 0, none⟩) vc r wr) ∧ Hid (HeldRow B wr base2 47 5 (.slice a2 p.n c2) p.n (p.xs.flatMap itLay.cells)) ∧ W.heap.size ≤ wr.heap.size) (fun i _ => p.n - (intOf i).toNat)
      case atStart => exact ⟨0, Nat.zero_le _, rfl, by rw [List.take_zero, List.append_nil]; exact J2, HI2, HR2, hsz2⟩
      case round =>
        clear J2 HI2 HR2 hsz2
        obtain ⟨j, hj, rfl, HJ, HI, HR, hsz⟩ := hrel
        by_cases hlt2 : j < p.n
        · obtain ⟨x, hx⟩ : ∃ x, p.xs[j]? = some x := ⟨_, List.getElem?_eq_getElem (by rw [HPL.out]; exact hlt2)⟩
          obtain ⟨g2, hva⟩ := own_head HR.out.own (by omega)
          subst hva
          have hrd : RdS itLay wr (some ⟨g2, 0, none⟩) p.n c2 p.xs := rdS_owns' (L := itLay) HR.out.own HPL.out
          obtain ⟨bb, offb, x', hea, hbl2, hx', e0, e1, e2, e3, e4⟩ := rdIt_at hrd hlt2
          obtain rfl : x = x' := by rw [hx] at hx'; cases hx'; rfl
          obtain ⟨rfl, rfl⟩ : g2 = bb ∧ 0 = offb := by simpa using hea
          rw [Nat.zero_add] at e0 e1 e2 e3 e4
          obtain ⟨t, hpre⟩ := pre_all (f := fun i => (pageAt (ps.map PgV.pg) i).xs) HY.out (by rw [HXS.out]; exact hx)
          rw [HXS.out, HALL.out] at hpre
          have hlen : ((r.take k).flatMap (fun i => (pageAt (ps.map PgV.pg) i).xs) ++ p.xs.take j).length < (allV (ps.map PgV.pg) root).length := by
            rw [← hpre]
            simp
          have hal := new_below wr (.cells #[.int .i64 x.id, .int .i64 x.x0, .int .i64 x.y0, .int .i64 x.x1, .int .i64 x.y1] 47)
          obtain ⟨fn, tmps, assign, body, hyl, hR⟩ := hY.out _ x _ (OwnFrom.below hJ.out HJ.out hal) hlen
          have HI2 := Lib.hid (HI.out.all hal)
          have HR2 := Lib.hid (HR.out.below hal HI.out.lt)
          have hsz2 : W.heap.size ≤ (wr.alloc (.cells #[.int .i64 x.id, .int .i64 x.x0, .int .i64 x.y0, .int .i64 x.x1, .int .i64 x.y1] 47)).heap.size := Nat.le_trans hsz hal.size
          dsimp only [itEnc] at hyl
          have z7 : (j : Int) < p.n := by omega
          have z8 : (0 : Int) ≤ j := by omega
          have HPRE := Lib.hid hpre
          have HX := Lib.hid hx
          clear hx hx' hrd hal hpre hlen HI HR HJ
          gi_wp2_with fail
          refine (round_deep hR).mono ?_
          rintro e w3 ⟨-, (⟨rfl, j3, k3⟩ | ⟨rfl, x3⟩)⟩
          · have HI3 := Lib.hid (HI2.out.kp k3)
            have HR3 := Lib.hid (HR2.out.kp k3)
            have hsz3 : W.heap.size ≤ w3.heap.size := Nat.le_trans hsz2 k3.below.size
            have J3 : Hid (J ((r.take k).flatMap (fun i => (pageAt (ps.map PgV.pg) i).xs) ++ p.xs.take (j + 1)) w3) := by
              rw [List.take_add_one, HX.out, ← List.append_assoc]
              exact Lib.hid j3
            clear k3 j3 HI2 HR2 hR hyl
            gi_wp2
            go_roundw
            case rel => exact ⟨j + 1, by omega, by go_num, J3, HI3, HR3, hsz3⟩
            case measure => simp [intOf]; omega
          · clear HI2 HR2 hR hyl
            gi_wp2
            refine bodyPost_ret (results_none rfl _ _ _) rfl ?_
            exact ⟨⟨_, rfl⟩, .inr ⟨_, ⟨t, HPRE.out⟩, x3⟩⟩
        · obtain rfl : j = p.n := by omega
          have J3 : Hid (J ((r.take (k + 1)).flatMap (fun i => (pageAt (ps.map PgV.pg) i).xs)) wr) := by
            have := HJ.out
            have e : p.xs.take p.n = p.xs := List.take_of_length_le (by rw [HPL.out]; exact Nat.le_refl _)
            rw [e] at this
            rw [List.take_add_one, HY.out, List.flatMap_append]
            simp only [Option.toList, List.flatMap_cons, List.flatMap_nil, List.append_nil]
            rw [HXS.out]
            exact Lib.hid this
          clear HJ HR
          gi_wp2
          go_roundw
          case rel => exact ⟨k + 1, by omega, by go_num, J3, HI, hsz⟩
          case measure => simp [intOf]; omega
    · obtain rfl : k = r.length := by omega
      have J3 : Hid (J (allV (ps.map PgV.pg) root) wr) := by
        have := HJ.out
        rw [List.take_length, HALL.out] at this
        exact Lib.hid this
      clear HJ
      gi_wp2
      go_end0
      exact ⟨⟨_, rfl⟩, .inl ⟨_, rfl, J3.out⟩⟩
end Go.Proofs.YtfefggcfeppeiaaGreat
