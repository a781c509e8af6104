/- The model's All: the items of the leaves that are reached. -/
import Derived.Test.YtnebhbnogmhbgaaQReachesd
import Derived.Test.YtnebhbnogmhbgaaBoundOfZReaches
namespace Go.Proofs.Ytnebhbnogmhbgaa
open Go.RowKit
attribute [local go_sem ↓] Go.wp_at_zero Go.wp_at_succ

def allV (l : List Pg) (root : Int) : List It := (leavesV l root).flatMap (fun i => (pageAt l i).xs)
/-- Rows of different elements lie apart. -/
theorem apart_tag {w : World} {base base' : Nat} {e e' : TypeId} {s s' n n' : Nat} {v v' : Value} {xs xs' : List Value} (h : w.ownsRow base e s v n xs) (h' : w.ownsRow base' e' s' v' n' xs') (he : e ≠ e') : Apart v v' := by
  intro g h1 h2
  rcases h.2 with ⟨rfl, _⟩ | ⟨g1, c1, cu1, rfl, _, hh, _⟩
  · cases h1
  rcases h'.2 with ⟨rfl, _⟩ | ⟨g2, c2, cu2, rfl, _, hh', _⟩
  · cases h2
  have e1 : g1 = g := by simpa [Value.ownBlock] using h1
  have e2 : g2 = g := by simpa [Value.ownBlock] using h2
  subst e1 e2
  rw [hh] at hh'
  injection hh' with h3
  injection h3 with _ h4 _
  exact he h4
theorem ownS_rowN {α : Type} {L : Lay α} {e : TypeId} {w : World} {base n : Nat} {v : Value} {xs : List α} (h : OwnS L e w base v xs) (hl : xs.length = n) : w.ownsRow base e L.sz v n (xs.flatMap L.cells) := by subst hl; exact h
theorem cells_one {α : Type} (L : Lay α) (xs : List α) : ∀ u ∈ xs.flatMap L.cells, u.oneCell' = true := by
  intro u hu
  obtain ⟨x, _, hx⟩ := List.mem_flatMap.1 hu
  exact L.one x u hx
theorem leaves_leaf {l : List Pg} {root y : Int} (h : y ∈ leavesV l root) : (pageAt l y).leaf = true ∧ 0 ≤ y ∧ y < (l.length : Int) := by
  have := List.mem_filter.1 h
  exact ⟨this.2, (reachV_ok l root).2 y this.1⟩
theorem leaves_len (l : List Pg) (root : Int) : (leavesV l root).length ≤ l.length := Nat.le_trans (List.length_filter_le _ _) (reachV_le l root)

set_option maxRecDepth 100000 in
set_option maxHeartbeats 3200000 in
theorem sAll_any (root : Int) (a : Option Addr) (n cap : Nat) (ps : List PgV) (w : World) (h : RdP w a n cap ps) (hn : n ≤ 1048576) (hps : ∀ p ∈ ps, p.n ≤ 1048576) :
    Calls Try.prog 115 #[.agg #[.int .i64 root, .slice a n cap]] w (NewItems (allV (ps.map PgV.pg) root) w) := by
  obtain ⟨i0, hi0, hz0, hz1, hz2⟩ := info_parts Try.infoItem
  replace hi0 := Lib.hid hi0
  replace hz0 := Lib.hid hz0
  replace hz1 := Lib.hid hz1
  replace hz2 := Lib.hid hz2
  have HL := Lib.hid h.1.1.1
  have hnc := h.1.1.2.1
  have hm := h.1.1.2.2.1
  unfold maxLen at hm
  obtain ⟨W0, hW0⟩ : ∃ W0, W0 = (w.alloc (.cells #[.int .i64 root, .slice a n cap] 26)).alloc (.cells #[] 127) := ⟨_, rfl⟩
  have b0 : Below w.heap.size w W0 := by subst hW0; exact ((Below.refl _ _).alloc (Nat.le_refl _) _).alloc (by simp) _
  have s0 : W0.heap.size = w.heap.size + 1 + 1 := by subst hW0; simp
  have K0 : Loc W0 w.heap.size #[.int .i64 root, .slice a n cap] := by subst hW0; exact (Loc.new w _ _).alloc _
  have O0 : OwnS itLay 127 W0 (w.heap.size + 1) (.slice (some ⟨w.heap.size + 1, 0, none⟩) 0 0) [] := by
    subst hW0
    exact own_nil (w.alloc (.cells #[.int .i64 root, .slice a n cap] 26)) 127 5 (w.heap.size + 1) (w.heap.size + 1) (by simp) (Nat.le_refl _)
  have HR := Lib.hid (h.below b0)
  have HRw := Lib.hid h
  have HPS := Lib.hid hps
  have C := Lib.hid (sLeaves_any root a n cap ps W0 HR.out (by omega))
  obtain ⟨r, hrr⟩ : ∃ r, leavesV (ps.map PgV.pg) root = r := ⟨_, rfl⟩
  have HLF : Hid (∀ y ∈ r, (pageAt (ps.map PgV.pg) y).leaf = true ∧ 0 ≤ y ∧ y < (n : Int)) := by
    rw [← hrr]
    exact Lib.hid (fun y hy => by have := leaves_leaf hy; rw [List.length_map, HL.out] at this; exact this)
  have hrl : r.length ≤ n := by
    have := leaves_len (ps.map PgV.pg) root
    rw [hrr, List.length_map, HL.out] at this
    exact this
  have hE : allV (ps.map PgV.pg) root = r.flatMap (fun i => (pageAt (ps.map PgV.pg) i).xs) := by unfold allV; rw [hrr]
  rw [hrr] at C
  rw [hE]
  have k0 := K0.2.1 0
  have k1 := K0.2.1 1
  simp at k0 k1
  clear h hE hrr hps
  go_enter Try.func115, Try.ntmps115
  go_wp2_with fail
  rw [← hW0]
  clear hW0
  refine C.out.mono ?_
  rintro e w1 ⟨v1, rfl, o1, b1⟩
  obtain ⟨va, vc, rfl, hrd⟩ := Own.rd o1
  have K1 := Lib.hid (K0.below b1)
  have B1 := Lib.hid (b0.trans (b1.mono b0.size))
  have O1 := Lib.hid (O0.below b1)
  have OR1 := Lib.hid o1
  have hq := K1.out.1
  have c1 := K1.out.2.1 1
  simp at c1
  clear o1 b1 hrd C K0 k0 k1 b0 HR O0
  go_wp2
  go_loopw [3, 5] (fun v i wr => ∃ (k : Nat) (vo : Option Addr) (co na : Nat) (acc : List It), k ≤ r.length ∧ v = .slice vo na co ∧ i = .int .i64 (k : Int) ∧ Hid (acc.length = na) ∧ na ≤ k * 1048576 ∧ Hid (acc = (r.take k).flatMap (fun i => (pageAt (ps.map PgV.pg) i).xs)) ∧ Hid (OwnS itLay 127 wr (w.heap.size + 1) (.slice vo na co) acc) ∧ Hid (Own .i64 3 wr W0.heap.size (.slice va r.length vc) r) ∧ Hid (Loc wr w.heap.size #[.int .i64 root, .slice a n cap]) ∧ Hid (Below w.heap.size w wr)) (fun _ i _ => r.length - (intOf i).toNat)
  case atStart => exact ⟨0, _, _, 0, [], Nat.zero_le _, rfl, rfl, Lib.hid rfl, Nat.zero_le _, Lib.hid rfl, O1, OR1, K1, B1⟩
  case round =>
    clear O1 OR1 K1 B1 c1 hq
    obtain ⟨k, vo, co, na, acc, hk, rfl, rfl, HNA, hna, HACC, HO, HOR, HK, HB⟩ := hrel
    have HP := Lib.hid (HRw.out.below HB.out)
    have c1 := HK.out.2.1 1
    simp at c1
    have hq := HK.out.1
    by_cases hlt : k < r.length
    · obtain ⟨rb, roff, hva, hrc⟩ := (rdI_own HOR.out).2 (by omega)
      have rc := hrc k hlt
      have hrb : rb < wr.heap.size := World.block_lt_of_cell? wr ⟨rb, roff + k, none⟩ rc
      obtain ⟨y, hy⟩ : ∃ y, r.getD k 0 = y := ⟨_, rfl⟩
      have hy2 : r[k]? = some y := by
        rw [← hy, List.getD_eq_getElem?_getD, List.getElem?_eq_getElem hlt]
        rfl
      rw [hy] at rc
      obtain ⟨hlf, hyr⟩ := HLF.out y (List.mem_of_getElem? hy2)
      obtain ⟨m, rfl⟩ := Int.eq_ofNat_of_zero_le hyr.1
      have hmn : (m : Int) < n := hyr.2
      obtain ⟨pb, poff, p, hpa, hpl, hp, hprd, d0, d1, d2⟩ := rdP_at HP.out (show m < n by omega)
      have hpg : pageAt (ps.map PgV.pg) m = p.pg := pageAt_yes hp
      have hlf2 : p.leaf = true := by rw [hpg] at hlf; exact hlf
      have HX : Hid ((r.take (k + 1)).flatMap (fun i => (pageAt (ps.map PgV.pg) i).xs) = acc ++ p.xs) := by
        show _ = _
        rw [List.take_add_one, hy2, List.flatMap_append, ← HACC.out]
        simp [hpg, PgV.pg]
      have hpn := HPS.out p (List.mem_of_getElem? hp)
      have hpxl : p.xs.length ≤ 1048576 := by rw [hprd.1.1]; exact hpn
      have HPL := Lib.hid hprd.1.1
      have z3 : (k : Int) < r.length := by omega
      have z4 : (0 : Int) ≤ k := by omega
      have z6 : (0 : Int) ≤ m := by omega
      have CI := fun V (bV : Below wr.heap.size wr V) => sItemsOf_leaf p.a p.n p.cap p.xs V (hprd.below bV) (by omega)
      replace CI := Lib.hid CI
      rw [hpa] at c1
      rw [hlf2] at d1
      replace hpa := Lib.hid hpa
      subst hva
      clear hp hprd hrc hy hyr hy2 hpg d0 hlf hlf2
      have HT := Lib.hid (apart_tag HO.out HOR.out (by decide))
      have hpw : pb < w.heap.size := HRw.out.1.lt (by omega) hpa.out
      have hrow : ∀ j, (Value.slice vo na co).ownBlock = some j → w.heap.size + 1 ≤ j ∧ j ≠ rb := fun j hj => ⟨(World.ownsRow.lt HO.out j hj).1, fun e => HT.out j hj (by rw [e]; rfl)⟩
      have KB := Lib.hid (show ∀ V : World, (∀ q o, q < wr.heap.size → (q < w.heap.size + 1 ∨ q = rb) → V.cell? ⟨q, o, none⟩ = wr.cell? ⟨q, o, none⟩) → (fun V => V.cell? ⟨w.heap.size, 1, none⟩ = some (.slice (some ⟨pb, poff, none⟩) n cap) ∧ V.cell? ⟨rb, roff + k, none⟩ = some (.int .i64 (m : Int)) ∧ V.cell? ⟨pb, poff + m * 3 + 1, none⟩ = some (.bool true) ∧ V.cell? ⟨pb, poff + m * 3 + 1 + 1, none⟩ = some (.slice p.a p.n p.cap)) V from fun V hV => ⟨(hV _ _ hq (.inl (by omega))).trans c1, (hV _ _ hrb (.inr rfl)).trans rc, (hV _ _ hpl (.inl (by omega))).trans d1, (hV _ _ hpl (.inl (by omega))).trans d2⟩)
      go_wp2_with fail
      go_region_held3 (fun V => V.cell? ⟨w.heap.size, 1, none⟩ = some (.slice (some ⟨pb, poff, none⟩) n cap) ∧ V.cell? ⟨rb, roff + k, none⟩ = some (.int .i64 (m : Int)) ∧ V.cell? ⟨pb, poff + m * 3 + 1, none⟩ = some (.bool true) ∧ V.cell? ⟨pb, poff + m * 3 + 1 + 1, none⟩ = some (.slice p.a p.n p.cap))
        (first | exact KB.out _ (fun _ _ _ _ => rfl) | exact KB.out _ (fun q o hq _ => b2.cell (p := ⟨q, o, none⟩) hq) | exact KB.out _ (fun q o hq hq' => (World.cell?_of_block (a := ⟨q, o, none⟩) (g3.block q (by have := b2.size; omega) (fun e => by have := hrow q e.symm; omega))).trans (b2.cell (p := ⟨q, o, none⟩) hq)))
        (first
          | (go_at_call 125; (with_reducible refine (CI.out _ (drew_below _)).mono ?_); rintro e w2 ⟨v2, rfl, o2, b2'⟩; obtain ⟨a2, c2, rfl, r2⟩ := OwnS.rd o2; have b2 := (drew_below wr).trans b2'; have O2 := Lib.hid o2)
          | (refine step_append_src rfl (.tmp 15) (.tmp 25) 111 rfl (w.heap.size + 1) 127 i0 _ 5 40 Try.underlying111 hi0.out hz0.out hz1.out hz2.out rfl (by decide) (.slice vo na co) na (acc.flatMap itLay.cells) rfl (ownS_rowN (HO.out.below b2) HNA.out) a2 p.xs.length c2 (p.xs.flatMap itLay.cells) rfl r2.len (fun h => r2.nil h) r2.news (cells_one itLay p.xs) (by unfold maxLen; omega) (by omega) (by have := b2.size; omega) ?_; intro v3 w3 o3 g3; obtain ⟨a3, c3, rfl⟩ := owns_shape o3))
      have HOR3 := Lib.hid ((HOR.out.below b2).keptApart g3 HT.out.symm)
      have HK3 := Lib.hid ((HK.out.below b2).grown g3 (fun j hj => by have := (hrow j hj).1; omega))
      have HB3 := Lib.hid ((HB.out.trans (b2.mono HB.out.size)).grown g3 (by have := b2.size; omega) (fun j hj => by have := (hrow j hj).1; omega))
      have HO3 : Hid (OwnS itLay 127 w3 (w.heap.size + 1) (.slice a3 (na + p.xs.length) c3) (acc ++ p.xs)) := by
        have := o3
        unfold OwnS
        rw [List.length_append, HNA.out, List.flatMap_append]
        exact Lib.hid this
      have HN3 : Hid ((acc ++ p.xs).length = na + p.xs.length) := by
        show _ = _
        rw [List.length_append, HNA.out]
      have HF3 := Lib.hid HX.out.symm
      clear o3 g3 b2 r2 b2' HX O2
      go_wp2
      go_roundw
      case rel => exact ⟨k + 1, a3, c3, na + p.xs.length, _, by omega, rfl, by go_num, HN3, by omega, HF3, HO3, HOR3, HK3, HB3⟩
      case measure => simp [intOf]; omega
    · obtain rfl : k = r.length := by omega
      have hall : Hid (acc = r.flatMap (fun i => (pageAt (ps.map PgV.pg) i).xs)) := by
        have := HACC.out
        rw [List.take_length] at this
        exact Lib.hid this
      go_wp2
      go_ret
      rw [← hall.out]
      exact ⟨_, rfl, OwnS.mono (L := itLay) HO.out (by omega), HB.out⟩

theorem allV_le (l : List Pg) (root : Int) {B : Nat} (hB : ∀ p ∈ l, p.xs.length ≤ B) : (allV l root).length ≤ l.length * B := by
  have h1 := leaves_len l root
  have h2 : ∀ (r : List Int), (r.flatMap (fun i => (pageAt l i).xs)).length ≤ r.length * B := by
    intro r
    induction r with
    | nil => simp
    | cons y r ih =>
      have h3 : (pageAt l y).xs.length ≤ B := by
        unfold pageAt
        split
        · cases e : l[y.toNat]? with
          | none => exact Nat.zero_le _
          | some p => exact hB p (List.mem_of_getElem? e)
        · exact Nat.zero_le _
      rw [List.flatMap_cons, List.length_append, List.length_cons, Nat.add_mul, Nat.one_mul]
      omega
  exact Nat.le_trans (h2 _) (Nat.mul_le_mul_right _ h1)
theorem atV_range (id : Int) : ∀ (l : List It) (k : Int), 0 ≤ k → atV id l k = -1 ∨ (k ≤ atV id l k ∧ atV id l k < k + l.length)
  | [], k, _ => .inl rfl
  | x :: l, k, h => by
    unfold atV
    split
    · right; simp; omega
    · rcases atV_range id l (k + 1) (by omega) with e | e
      · exact .inl e
      · right
        rw [List.length_cons]
        omega
/-- Find's answer. -/
def findV (l : List Pg) (root id : Int) : Bx × Bool := if atV id (allV l root) 0 < 0 then (⟨0, 0, 0, 0⟩, false) else (boxOf ((allV l root)[(atV id (allV l root) 0).toNat]?.getD zeroIt), true)

set_option maxRecDepth 100000 in
set_option maxHeartbeats 1600000 in
theorem sFind_any (root id : Int) (a : Option Addr) (n cap : Nat) (ps : List PgV) (w : World) (h : RdP w a n cap ps) (hn : n ≤ 1048576) (hps : ∀ p ∈ ps, p.n ≤ 1048576) :
    Calls Try.prog 114 #[.agg #[.int .i64 root, .slice a n cap], .int .i64 id] w fun e w' => e = .returned (.tuple #[.agg #[.int .i64 (findV (ps.map PgV.pg) root id).1.x0, .int .i64 (findV (ps.map PgV.pg) root id).1.y0, .int .i64 (findV (ps.map PgV.pg) root id).1.x1, .int .i64 (findV (ps.map PgV.pg) root id).1.y1], .bool (findV (ps.map PgV.pg) root id).2]) ∧ Below w.heap.size w w' := by
  obtain ⟨W0, hW0⟩ : ∃ W0, W0 = (w.alloc (.cells #[.int .i64 root, .slice a n cap] 26)).alloc (.cells #[.int .i64 0, .int .i64 0, .int .i64 0, .int .i64 0] 89) := ⟨_, rfl⟩
  have b0 : Below w.heap.size w W0 := by subst hW0; exact ((Below.refl _ _).alloc (Nat.le_refl _) _).alloc (by simp) _
  have C := Lib.hid (sAll_any root a n cap ps W0 (h.below b0) hn hps)
  have hle : (allV (ps.map PgV.pg) root).length ≤ 1099511627776 := by
    have h1 := allV_le (ps.map PgV.pg) root (B := 1048576) (fun q hq => by
      obtain ⟨p, hp, rfl⟩ := List.mem_map.1 hq
      have h2 := hps p hp
      rw [← (h.2 p hp).1.1] at h2
      exact h2)
    rw [List.length_map, h.1.1.1] at h1
    exact Nat.le_trans h1 (Nat.mul_le_mul_right _ hn)
  obtain ⟨xs, hxs⟩ : ∃ xs, allV (ps.map PgV.pg) root = xs := ⟨_, rfl⟩
  obtain ⟨res, hres⟩ : ∃ res, findV (ps.map PgV.pg) root id = res := ⟨_, rfl⟩
  have hF : res = if atV id xs 0 < 0 then ((⟨0, 0, 0, 0⟩ : Bx), false) else (boxOf (xs[(atV id xs 0).toNat]?.getD zeroIt), true) := by rw [← hres, ← hxs]; rfl
  rw [hres]
  rw [hxs] at C hle
  replace hF := Lib.hid hF
  have K : (∀ o, W0.cell? ⟨w.heap.size, o, none⟩ = #[Value.int .i64 root, .slice a n cap][o]?) ∧ (∀ o, W0.cell? ⟨w.heap.size + 1, o, none⟩ = #[Value.int .i64 0, .int .i64 0, .int .i64 0, .int .i64 0][o]?) ∧ (∀ o, W0.frozen? ⟨w.heap.size + 1, o, none⟩ = false) := by
    subst hW0
    have h2 := Loc.new (w.alloc (.cells #[.int .i64 root, .slice a n cap] 26)) #[.int .i64 0, .int .i64 0, .int .i64 0, .int .i64 0] 89
    rw [show (w.alloc (.cells #[.int .i64 root, .slice a n cap] 26)).heap.size = w.heap.size + 1 by simp] at h2
    exact ⟨((Loc.new w _ _).alloc _).2.1, h2.2.1, h2.2.2⟩
  obtain ⟨k0, k1, k2⟩ := K
  have s0 : W0.heap.size = w.heap.size + 1 + 1 := by subst hW0; simp
  clear h hxs hres
  go_enter Try.func114, Try.ntmps114
  go_wp2_with fail
  rw [← hW0]
  clear hW0
  refine C.out.mono ?_
  rintro e w1 ⟨v1, rfl, o1, b1⟩
  obtain ⟨va, vc, rfl, hrd⟩ := OwnS.rd o1
  have CI := Lib.hid (sItemAt_any va xs.length vc xs id w1 hrd)
  have J1 := Lib.hid (below_keep b1 (by omega) _ _ ⟨k1, k2⟩)
  have B1 := Lib.hid (b0.trans (b1.mono b0.size))
  have RD := Lib.hid hrd
  have s1 := b1.size
  clear o1 hrd b1 k0 k1 k2 C b0
  obtain ⟨j, hj⟩ : ∃ j, atV id xs 0 = j := ⟨_, rfl⟩
  have hjr := atV_range id xs 0 (Int.le_refl _)
  rw [hj] at CI hF hjr
  go_wp2_with fail
  refine CI.out.mono ?_
  rintro e w2 ⟨rfl, b2⟩
  obtain ⟨m1, m2⟩ := below_keep b2 (by omega) _ _ J1.out
  have RD2 := Lib.hid (RD.out.below b2)
  have B2 := Lib.hid (B1.out.trans (b2.mono B1.out.size))
  have s2 := b2.size
  clear b2 B1 RD J1 CI
  by_cases hj0 : j < 0
  · have hv : Hid (res = (⟨0, 0, 0, 0⟩, false)) := Lib.hid (by rw [hF.out, if_pos hj0])
    clear hF hjr hj
    go_wp2
    refine bodyPost_ret (v := .tuple #[.agg #[.int .i64 0, .int .i64 0, .int .i64 0, .int .i64 0], .bool false]) (by simp [results, Try.results114, go_sem, m1]) rfl ?_
    rw [hv.out]
    exact ⟨rfl, (((B2.out.setCell (p := ⟨w.heap.size + 1, 0, none⟩) (show w.heap.size ≤ w.heap.size + 1 by omega) _).setCell (p := ⟨w.heap.size + 1, 1, none⟩) (show w.heap.size ≤ w.heap.size + 1 by omega) _).setCell (p := ⟨w.heap.size + 1, 2, none⟩) (show w.heap.size ≤ w.heap.size + 1 by omega) _).setCell (p := ⟨w.heap.size + 1, 3, none⟩) (show w.heap.size ≤ w.heap.size + 1 by omega) _⟩
  · obtain ⟨k, rfl⟩ := Int.eq_ofNat_of_zero_le (show 0 ≤ j by omega)
    have hk : k < xs.length := by omega
    obtain ⟨b, off, x, hva, hbl, hx, d0, d1, d2, d3, d4⟩ := rdIt_at RD2.out hk
    have hv : Hid (res = (boxOf x, true)) := Lib.hid (by rw [hF.out, if_neg hj0, Int.toNat_natCast, hx]; rfl)
    have z1 : (k : Int) < xs.length := by omega
    subst hva
    clear hF hjr hj hx
    go_wp2
    refine bodyPost_ret (v := .tuple #[.agg #[.int .i64 x.x0, .int .i64 x.y0, .int .i64 x.x1, .int .i64 x.y1], .bool true]) (by simp [results, Try.results114, go_sem, m1]) rfl ?_
    rw [hv.out]
    exact ⟨rfl, (((B2.out.setCell (p := ⟨w.heap.size + 1, 0, none⟩) (show w.heap.size ≤ w.heap.size + 1 by omega) _).setCell (p := ⟨w.heap.size + 1, 1, none⟩) (show w.heap.size ≤ w.heap.size + 1 by omega) _).setCell (p := ⟨w.heap.size + 1, 2, none⟩) (show w.heap.size ≤ w.heap.size + 1 by omega) _).setCell (p := ⟨w.heap.size + 1, 3, none⟩) (show w.heap.size ≤ w.heap.size + 1 by omega) _⟩
end Go.Proofs.Ytnebhbnogmhbgaa
