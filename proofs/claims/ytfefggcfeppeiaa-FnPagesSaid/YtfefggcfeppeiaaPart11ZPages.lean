/- The model's l11Part: a page that has too many is parted, in the book that a pointer leads to. -/
import Derived.Test.YtfefggcfeppeiaaSplitZPages
import Derived.Test.YtfefggcfeppeiaaPartMathZPages
namespace Go.Proofs.Ytfefggcfeppeiaa
open Go.RowKit
attribute [local go_sem ↓] Go.wp_at_zero Go.wp_at_succ

/-- The book in the block q: its pages are read. -/
structure BookAt (w : World) (q : Nat) (root : Int) (l : List Pg) (a : Option Addr) (n cap : Nat) (ps : List PgV) : Prop where
  loc : Loc w q #[.int .i64 root, .slice a n cap]
  tag : TagT 26 w q
  rd : RdP w a n cap ps
  eq : ps.map PgV.pg = l
/-- What P reads lies outside the blocks of Z. -/
def Off (w : World) (Z : Nat → Prop) (P : World → Prop) : Prop := ∀ W : World, (∀ k, k < w.heap.size → ¬ Z k → W.heap[k]? = w.heap[k]?) → P W
theorem Off.keep {w w' : World} {Z Z' : Nat → Prop} {P : World → Prop} (h : Off w Z P) (hs : w.heap.size ≤ w'.heap.size) (hZ : ∀ k, k < w.heap.size → Z' k → Z k) (hb : ∀ k, k < w.heap.size → ¬ Z k → w'.heap[k]? = w.heap[k]?) : Off w' Z' P :=
  fun W hW => h W (fun k hk hz => (hW k (by omega) (fun e => hz (hZ k hk e))).trans (hb k hk hz))
theorem Off.self {w : World} {Z : Nat → Prop} {P : World → Prop} (h : Off w Z P) : P w := h w (fun _ _ _ => rfl)
theorem OwnP.off {w : World} {base n cap : Nat} {a : Option Addr} {ps : List PgV} (h : OwnP w base (.slice a n cap) ps) {Z : Nat → Prop} (hz : ∀ k, Z k → k < base) : Off w Z (fun W => RdP W a n cap ps) :=
  fun W hW => (h.frame w W (fun k h1 h2 => hW k h2 (fun e => by have := hz k e; omega)) h).rd
/-- A book's pages: they are read; or (from B on) they are owned. -/
def Bk : Option Nat → World → Option Addr → Nat → Nat → List PgV → Prop
  | none, W, a, n, cap, ps => RdP W a n cap ps
  | some B, W, a, n, cap, ps => OwnP W B (.slice a n cap) ps
theorem OwnP.offB {w : World} {base n cap : Nat} {a : Option Addr} {ps : List PgV} (h : OwnP w base (.slice a n cap) ps) (o : Option Nat) (ho : ∀ B, o = some B → B ≤ base) {Z : Nat → Prop} (hz : ∀ k, Z k → k < base) : Off w Z (fun W => Bk o W a n cap ps) := by
  cases o with
  | none => exact h.off hz
  | some B => exact fun W hW => OwnP.mono (h.frame w W (fun k h1 h2 => hW k h2 (fun e => by have := hz k e; omega)) h) (ho B rfl)
/-- What a function leaves that writes a new book into the block q: the new one reads no block that the old one left alone; it is owned if the old one was. -/
def NewAt (w : World) (q : Nat) (root : Int) (a0 : Option Addr) (n0 cap0 : Nat) (ps0 : List PgV) (l : List Pg) (w' : World) : Prop :=
  ∃ a n cap ps, BookAt w' q root l a n cap ps ∧ w.grownBy w' (some q) ∧ ∀ o : Option Nat, (∀ B, o = some B → B ≤ w.heap.size) → ∀ Z : Nat → Prop, (∀ k, Z k → k < w.heap.size) → Off w Z (fun W => Bk o W a0 n0 cap0 ps0) → Off w' Z (fun W => Bk o W a n cap ps)
/-- The parted page's book, and the entry of the new page. -/
def partV (l : List Pg) (i : Int) : List Pg × It × Bool :=
  if (allocV l).2 < 0 then (l, zeroIt, false)
  else (putV (putV (allocV l).1 i ⟨true, (pageAt l i).leaf, (partedV (pageAt l i).xs).1⟩) (allocV l).2 ⟨true, (pageAt l i).leaf, (partedV (pageAt l i).xs).2⟩,
    ⟨(allocV l).2, (boxesV (partedV (pageAt l i).xs).2).x0, (boxesV (partedV (pageAt l i).xs).2).y0, (boxesV (partedV (pageAt l i).xs).2).x1, (boxesV (partedV (pageAt l i).xs).2).y1⟩, true)

theorem totG_cap : ∀ (l : List Pg) {B : Nat}, (∀ p ∈ l, p.xs.length ≤ B) → totG l ≤ l.length * B
  | [], _, _ => Nat.zero_le _
  | p :: l, B, h => by
    have h1 := totG_cap l (fun p hp => h p (List.mem_cons_of_mem _ hp))
    have h2 := h p List.mem_cons_self
    show p.xs.length + totG l ≤ (l.length + 1) * B
    rw [Nat.add_mul, Nat.one_mul]
    omega
theorem allocV_idx (l : List Pg) : (allocV l).2 ≤ (l.length : Int) := by
  unfold allocV
  split
  · rename_i i h
    have := (List.findIdx?_eq_some_iff_findIdx_eq.1 h).1
    show (i : Int) ≤ _
    omega
  · split
    · show (-1 : Int) ≤ _
      omega
    · exact Int.le_refl _
theorem BookAt.keep {w w' : World} {q : Nat} {root : Int} {l : List Pg} {a : Option Addr} {n cap : Nat} {ps : List PgV} (h : BookAt w q root l a n cap ps) (hb : Below w.heap.size w w') : BookAt w' q root l a n cap ps :=
  ⟨h.loc.below hb, h.tag.of (hb.block q h.loc.1), h.rd.below hb, h.eq⟩

set_option maxRecDepth 100000 in
set_option maxHeartbeats 3200000 in
theorem l11Part_any (q : Nat) (root i : Int) (l : List Pg) (a : Option Addr) (n cap : Nat) (ps : List PgV) (w : World) (h : BookAt w q root l a n cap ps) (hi : 0 ≤ i ∧ i < n) (hn : n ≤ 1000) (hps : ∀ p ∈ ps, p.n ≤ 1048576) :
    Calls Try.prog 137 #[.pointer (some ⟨q, 0, none⟩), .int .i64 i] w fun e w' => e = .returned (.tuple #[.agg #[.int .i64 (partV l i).2.1.id, .int .i64 (partV l i).2.1.x0, .int .i64 (partV l i).2.1.y0, .int .i64 (partV l i).2.1.x1, .int .i64 (partV l i).2.1.y1], .bool (partV l i).2.2]) ∧ NewAt w q root a n cap ps (partV l i).1 w' := by
  obtain ⟨h0, h1⟩ := hi
  obtain ⟨m, rfl⟩ := Int.eq_ofNat_of_zero_le h0
  have hmn : m < n := by omega
  have HL := Lib.hid h.rd.1.1.1
  have hnc := h.rd.1.1.2.1
  have hm := h.rd.1.1.2.2.1
  unfold maxLen at hm
  obtain ⟨W0, hW0⟩ : ∃ W0, W0 = w.alloc (.cells #[.int .i64 0, .int .i64 0, .int .i64 0, .int .i64 0, .int .i64 0] 92) := ⟨_, rfl⟩
  have B0 : Below w.heap.size w W0 := by subst hW0; exact new_below w _
  have Z0 : Loc W0 w.heap.size #[.int .i64 0, .int .i64 0, .int .i64 0, .int .i64 0, .int .i64 0] := by subst hW0; exact Loc.new w _ _
  have s0 := B0.size
  have K0 := h.loc.below B0
  have R0 := Lib.hid (h.rd.below B0)
  obtain ⟨b, off, p, rfl, hbl, hp, hrd', d0, d1, d2⟩ := rdP_at h.rd hmn
  have hrd := hrd'.below B0
  have hpa : pageAt l m = p.pg := by rw [← h.eq]; exact pageAt_yes hp
  have hpn := hps p (List.mem_of_getElem? hp)
  have C := sSplit_any p.leaf p.a p.n p.cap p.xs W0 hrd hpn
  have hlen := partedV_len p.xs
  have hpxl := hrd.1.1
  obtain ⟨⟨xa, xb⟩, hpr⟩ : ∃ pr, partedV p.xs = pr := ⟨_, rfl⟩
  rw [hpr] at C hlen
  replace C := Lib.hid C
  have hxa : xa.length ≤ 1099511627776 := by have : xa.length + xb.length ≤ p.xs.length + 2 := hlen; omega
  have hxb : xb.length ≤ 1099511627776 := by have : xa.length + xb.length ≤ p.xs.length + 2 := hlen; omega
  have hxal : xa.length ≤ 1048578 := by have : xa.length + xb.length ≤ p.xs.length + 2 := hlen; omega
  obtain ⟨nl, hnl⟩ : ∃ nl, allocV l = nl := ⟨_, rfl⟩
  have hpv : partV l m = if nl.2 < 0 then (l, zeroIt, false) else (putV (putV nl.1 m ⟨true, p.leaf, xa⟩) nl.2 ⟨true, p.leaf, xb⟩, ⟨nl.2, (boxesV xb).x0, (boxesV xb).y0, (boxesV xb).x1, (boxesV xb).y1⟩, true) := by
    unfold partV
    rw [hpa, show p.pg.xs = p.xs from rfl, show p.pg.leaf = p.leaf from rfl, hpr, hnl]
  obtain ⟨res, hres⟩ : ∃ res, partV l m = res := ⟨_, rfl⟩
  rw [hres] at hpv
  rw [hres]
  have HB := Lib.hid h
  have k0 := h.loc.2.1 0
  have k1 := h.loc.2.1 1
  simp at k0 k1
  have z1 : (m : Int) < n := h1
  have hqw := h.loc.1
  replace hpv := Lib.hid hpv
  clear h hrd hp hrd' hres hpr hlen hpxl hpa
  go_enter Try.func137, Try.ntmps137
  go_wp2_with fail
  rw [← hW0]
  clear hW0
  refine C.out.mono ?_
  rintro e w1 ⟨v1, v2, rfl, o1, o2, ha, b1⟩
  obtain ⟨a1, c1, rfl, -⟩ := o1.rd
  obtain ⟨a2, c2, rfl, -⟩ := o2.rd
  have s1 := b1.size
  have K1 := Lib.hid (K0.below b1)
  have R1 := Lib.hid (R0.out.below b1)
  have Z1 := Lib.hid (Z0.below b1)
  have B1 := Lib.hid (B0.trans (b1.mono B0.size))
  have O1 : Hid (OwnS itLay 92 w1 W0.heap.size (.slice a1 xa.length c1) xa) := Lib.hid o1
  have O2 : Hid (OwnS itLay 92 w1 W0.heap.size (.slice a2 xb.length c2) xb) := Lib.hid o2
  clear o1 o2 ha b1 C K0 R0 Z0 B0 k0 k1 d0 d1 d2
  have k0 := K1.out.2.1 0
  have k1 := K1.out.2.1 1
  simp at k0 k1
  have hq1 := K1.out.1
  obtain ⟨W2, hW2⟩ : ∃ W2, W2 = (w1.alloc (.cells #[.bool p.leaf, .slice a1 xa.length c1] 32)).alloc (.cells #[.bool p.leaf, .slice a2 xb.length c2] 32) := ⟨_, rfl⟩
  have b2 : Below w1.heap.size w1 W2 := by subst hW2; exact ((Below.refl _ _).alloc (Nat.le_refl _) _).alloc (by simp) _
  obtain ⟨qx, hqx⟩ : ∃ qx, qx = w1.heap.size := ⟨_, rfl⟩
  obtain ⟨qy, hqy⟩ : ∃ qy, qy = w1.heap.size + 1 := ⟨_, rfl⟩
  have KX : Loc W2 qx #[.bool p.leaf, .slice a1 xa.length c1] := by subst hW2; subst hqx; exact (Loc.new w1 _ _).alloc _
  have KY : Loc W2 qy #[.bool p.leaf, .slice a2 xb.length c2] := by
    subst hW2
    subst hqy
    have := Loc.new (w1.alloc (.cells #[.bool p.leaf, .slice a1 xa.length c1] 32)) #[.bool p.leaf, .slice a2 xb.length c2] 32
    rw [show (w1.alloc (.cells #[.bool p.leaf, .slice a1 xa.length c1] 32)).heap.size = w1.heap.size + 1 by simp] at this
    exact this
  have CA := sAlloc_any root (some ⟨b, off, none⟩) n cap ps W2 (R1.out.below b2) (by omega) (fun p hp => Nat.le_trans (hps p hp) (by decide))
  rw [show ps.map PgV.pg = l from HB.out.eq, hnl] at CA
  replace CA := Lib.hid CA
  have K2 := Lib.hid (K1.out.below b2)
  have Z2 := Lib.hid (Z1.out.below b2)
  have B2 := Lib.hid (B1.out.trans (b2.mono B1.out.size))
  have P1 := Lib.hid (O1.out.below b2)
  have P2 := Lib.hid (O2.out.below b2)
  replace KX := Lib.hid KX
  replace KY := Lib.hid KY
  replace hnl := Lib.hid hnl
  clear O1 O2 K1 Z1 B1 R1 b2
  have hqqy : q < qy := by omega
  replace hqx := Lib.hid hqx
  replace hqy := Lib.hid hqy
  go_wp2_with fail
  rw [← hW2, ← hqy.out, ← hqx.out]
  clear hW2 hqx hqy k0 k1
  refine CA.out.mono ?_
  rintro e w3 ⟨v3, qs, rfl, eqs, o3, b3⟩
  obtain ⟨a3, c3, rfl⟩ := o3.shape
  have s3 := b3.size
  have K3 := Lib.hid (K2.out.below b3)
  have Z3 := Lib.hid (Z2.out.below b3)
  have X3 := Lib.hid (KX.out.below b3)
  have Y3 := Lib.hid (KY.out.below b3)
  have B3 := Lib.hid (B2.out.trans (b3.mono B2.out.size))
  have P13 := Lib.hid (P1.out.below b3)
  have P23 := Lib.hid (P2.out.below b3)
  have Q3 := Lib.hid o3
  have E3 := Lib.hid (show qs.map PgV.pg = nl.1 from eqs)
  clear o3 b3 eqs CA K2 Z2 KX KY B2 P1 P2
  obtain ⟨-, y0, yf⟩ := Z3.out
  have hz3 := Z3.out.1
  by_cases hneg : nl.2 < 0
  · have hr : Hid (res = (l, zeroIt, false)) := Lib.hid (by rw [hpv.out, if_pos hneg])
    go_wp2_with fail
    obtain ⟨WF, hWF⟩ : ∃ WF, WF = ((((((w3.setCell ⟨w.heap.size, 0, none⟩ (.int .i64 0)).setCell ⟨w.heap.size, 1, none⟩ (.int .i64 0)).setCell ⟨w.heap.size, 2, none⟩ (.int .i64 0)).setCell ⟨w.heap.size, 3, none⟩ (.int .i64 0)).setCell ⟨w.heap.size, 4, none⟩ (.int .i64 0)).alloc (.cells #[.int .i64 root, .slice a3 qs.length c3] 26)) := ⟨_, rfl⟩
    have BF : Below w.heap.size w WF := by
      rw [hWF]
      exact (((((B3.out.setCell (p := ⟨w.heap.size, 0, none⟩) (Nat.le_refl _) _).setCell (p := ⟨w.heap.size, 1, none⟩) (Nat.le_refl _) _).setCell (p := ⟨w.heap.size, 2, none⟩) (Nat.le_refl _) _).setCell (p := ⟨w.heap.size, 3, none⟩) (Nat.le_refl _) _).setCell (p := ⟨w.heap.size, 4, none⟩) (Nat.le_refl _) _).alloc (by simp; omega) _
    have ZF : Loc WF w.heap.size #[.int .i64 0, .int .i64 0, .int .i64 0, .int .i64 0, .int .i64 0] := by
      rw [hWF]
      exact (((((Z3.out.set 0 (.int .i64 0) (by simp)).set 1 (.int .i64 0) (by simp)).set 2 (.int .i64 0) (by simp)).set 3 (.int .i64 0) (by simp)).set 4 (.int .i64 0) (by simp)).alloc _
    have zf := ZF.2.1
    rw [← hWF]
    refine bodyPost_ret (v := .tuple #[.agg #[.int .i64 0, .int .i64 0, .int .i64 0, .int .i64 0, .int .i64 0], .bool false]) (by simp [results, Try.results137, go_sem, zf]) rfl ?_
    rw [hr.out]
    exact ⟨rfl, _, _, _, _, HB.out.keep BF, Below.toGrown BF _, fun _ _ Z _ hz => hz.keep BF.size (fun _ _ e => e) (fun k hk _ => BF.block k hk)⟩
  · have hr : Hid (res = (putV (putV nl.1 m ⟨true, p.leaf, xa⟩) nl.2 ⟨true, p.leaf, xb⟩, ⟨nl.2, (boxesV xb).x0, (boxesV xb).y0, (boxesV xb).x1, (boxesV xb).y1⟩, true)) := Lib.hid (by rw [hpv.out, if_neg hneg])
    have hll : l.length = n := by rw [← HB.out.eq, List.length_map, HL.out]
    have htl : totG l ≤ 1048576000 := by
      have h5 := totG_cap l (B := 1048576) (fun g hg => by
        rw [← HB.out.eq] at hg
        obtain ⟨p, hp, rfl⟩ := List.mem_map.1 hg
        have h6 := hps p hp
        rw [← (HB.out.rd.2 p hp).1.1] at h6
        exact h6)
      rw [hll] at h5
      exact Nat.le_trans h5 (Nat.mul_le_mul_right 1048576 hn)
    obtain ⟨hal1, hal2⟩ := allocV_le l
    rw [hnl.out] at hal1 hal2
    have hqsl : qs.length ≤ 1001 := by rw [len_pgs E3.out]; omega
    have hqsn := pgs_le Q3.out E3.out (B := 1099511627776) (by omega)
    obtain ⟨L1, hL1⟩ : ∃ L1, putV nl.1 m ⟨true, p.leaf, xa⟩ = L1 := ⟨_, rfl⟩
    obtain ⟨hp1, hp2⟩ := putV_le nl.1 m ⟨true, p.leaf, xa⟩
    rw [hL1] at hp1 hp2 hr
    have hp2' : totG L1 ≤ totG nl.1 + xa.length := hp2
    obtain ⟨L2, hL2⟩ : ∃ L2, putV L1 nl.2 ⟨true, p.leaf, xb⟩ = L2 := ⟨_, rfl⟩
    rw [hL2] at hr
    have CP1 : Hid (∀ V, Below w3.heap.size w3 V → Calls Try.prog 20 #[.agg #[.int .i64 root, .slice a3 qs.length c3], .int .i64 (m : Int), .agg #[.bool p.leaf, .slice a1 xa.length c1]] V (NewBook root L1 V)) := Lib.hid (fun V bV => by
      have := sPut_any root m a3 qs.length c3 qs p.leaf a1 xa.length c1 xa V (Q3.out.rd.below bV) ((rdS_ownsP P13.out).below bV) (wf_small m (by omega) (by omega)) (by omega) hxa hqsn
      rw [E3.out, hL1] at this
      exact this)
    have CP2 : Hid (∀ V a5 c5 (rs : List PgV), Below w3.heap.size w3 V → RdP V a5 rs.length c5 rs → rs.map PgV.pg = L1 → (∀ p ∈ rs, p.n ≤ 1099511627776) → Calls Try.prog 20 #[.agg #[.int .i64 root, .slice a5 rs.length c5], .int .i64 nl.2, .agg #[.bool p.leaf, .slice a2 xb.length c2]] V (NewBook root L2 V)) := Lib.hid (fun V a5 c5 rs bV hrs ers hn5 => by
      have := sPut_any root nl.2 a5 rs.length c5 rs p.leaf a2 xb.length c2 xb V hrs ((rdS_ownsP P23.out).below bV) (wf_small nl.2 (by omega) (by have := allocV_idx l; rw [hnl.out] at this; omega)) (by have := len_pgs ers; omega) hxb hn5
      rw [ers, hL2] at this
      exact this)
    have KS : Hid (∀ V, Below w3.heap.size w3 V → (fun V => Below w3.heap.size w3 V ∧ V.cell? ⟨qx, 0, none⟩ = some (.bool p.leaf) ∧ V.cell? ⟨qx, 1, none⟩ = some (.slice a1 xa.length c1) ∧ V.cell? ⟨qy, 0, none⟩ = some (.bool p.leaf) ∧ V.cell? ⟨qy, 1, none⟩ = some (.slice a2 xb.length c2)) V) := Lib.hid (fun V b => ⟨b, ((X3.out.below b).2.1 0).trans rfl, ((X3.out.below b).2.1 1).trans rfl, ((Y3.out.below b).2.1 0).trans rfl, ((Y3.out.below b).2.1 1).trans rfl⟩)
    have b4 : Below w3.heap.size w3 (w3.alloc (.cells #[.int .i64 root, .slice a3 qs.length c3] 26)) := new_below w3 _
    have T4 : TagT 26 (w3.alloc (.cells #[.int .i64 root, .slice a3 qs.length c3] 26)) w3.heap.size := TagT.new _ _ _
    have G4 := Loc.new w3 #[.int .i64 root, .slice a3 qs.length c3] 26
    have hLb := Lib.hid (show totG L1 ≤ 1099511627776 by omega)
    clear y0 yf hqsn
    replace hL1 := Lib.hid hL1
    replace hL2 := Lib.hid hL2
    go_wp2_with fail
    refine wp_region_noPanic ?_
    refine wp_region_held_drew (S := fun V => Below w3.heap.size w3 V ∧ V.cell? ⟨qx, 0, none⟩ = some (.bool p.leaf) ∧ V.cell? ⟨qx, 1, none⟩ = some (.slice a1 xa.length c1) ∧ V.cell? ⟨qy, 0, none⟩ = some (.bool p.leaf) ∧ V.cell? ⟨qy, 1, none⟩ = some (.slice a2 xb.length c2)) (by kernel_rfl) (KS.out _ b4.drew) (fun hHeld => ?_)
    refine wpAnyH_take (i := 1) (v := ?v1) rfl (by kernel_rfl) (by kernel_rfl) (by kernel_rfl) (fun _ _ _ h => h) (Or.inl ⟨by rfl, ?hy1⟩) (by assumption) ?rest1
    case hy1 => intro w hSw; (try dsimp only at hSw); go_simp; (try with_reducible rfl)
    simp only [List.getElem_toArray, List.getElem_cons_zero, List.getElem_cons_succ, Act.put, List.setIfInBounds_toArray, List.set_cons_zero, List.set_cons_succ]
    refine wpAnyH_take (i := 2) (v := ?v2) rfl (by kernel_rfl) (by kernel_rfl) (by kernel_rfl) (fun _ _ _ h => h) (Or.inl ⟨by rfl, ?hy2⟩) (by assumption) ?rest2
    case hy2 => intro w hSw; (try dsimp only at hSw); go_simp; (try with_reducible rfl)
    simp only [List.getElem_toArray, List.getElem_cons_zero, List.getElem_cons_succ, Act.put, List.setIfInBounds_toArray, List.set_cons_zero, List.set_cons_succ]
    refine wpAnyH_take (i := 4) (v := ?v4) rfl (by kernel_rfl) (by kernel_rfl) (by kernel_rfl) (fun _ _ _ h => h) (Or.inl ⟨by rfl, ?hy4⟩) (by assumption) ?rest4
    case hy4 => intro w hSw; (try dsimp only at hSw); go_simp; (try with_reducible rfl)
    simp only [List.getElem_toArray, List.getElem_cons_zero, List.getElem_cons_succ, Act.put, List.setIfInBounds_toArray, List.set_cons_zero, List.set_cons_succ]
    refine wpAnyH_take (i := 5) (v := ?v5) rfl (by kernel_rfl) (by kernel_rfl) (by kernel_rfl) (fun _ _ _ h => h) (Or.inl ⟨by rfl, ?hy5⟩) (by assumption) ?rest5
    case hy5 => intro w hSw; (try dsimp only at hSw); go_simp; (try with_reducible rfl)
    simp only [List.getElem_toArray, List.getElem_cons_zero, List.getElem_cons_succ, Act.put, List.setIfInBounds_toArray, List.set_cons_zero, List.set_cons_succ]
    refine wpAnyH_ready (rs := [0]) (by kernel_rfl) (by simp) ?_
    refine AllReadyH.cons rfl (fun K hK => ?_) AllReadyH.nil
    go_simp
    refine hK.out _ _ (KS.out _ b4.drew) (fun hHeld => ?_)
    clear hK K
    refine wpAnyH_ready (rs := [3]) (by kernel_rfl) (by simp) ?_
    refine AllReadyH.cons rfl (fun K hK => ?_) AllReadyH.nil
    go_simp
    refine (CP1.out _ b4.drew).mono ?_
    rintro e w5 ⟨v5, rs, rfl, ers, o5, b5⟩
    obtain ⟨a5, c5, rfl⟩ := o5.shape
    have r5 := o5.rd
    have n5 := pgs_le o5 ers hLb.out
    have hz5 : w.heap.size + 1 ≤ w5.heap.size := by
      have h5 := b5.size
      have : (w3.alloc (.cells #[.int .i64 root, .slice a3 qs.length c3] 26)).drew.heap.size = w3.heap.size + 1 := (by simp)
      omega
    have B5 := b4.drew.trans (b5.mono (show w3.heap.size ≤ (w3.alloc (.cells #[.int .i64 root, .slice a3 qs.length c3] 26)).drew.heap.size from b4.drew.size))
    have G5 := (G4.drew).below b5
    have T5 : TagT 26 w5 w3.heap.size := (T4.of (V' := (w3.alloc (.cells #[.int .i64 root, .slice a3 qs.length c3] 26)).drew) rfl).of (b5.block _ (G4.drew).1)
    clear b5
    refine hK.out _ _ (KS.out _ B5) (fun hHeld => ?_)
    clear hK K
    refine wpAnyH_ready (rs := [6]) (by kernel_rfl) (by simp) ?_
    refine AllReadyH.cons rfl (fun K hK => ?_) AllReadyH.nil
    go_simp
    refine (CP2.out _ a5 c5 rs B5 r5 ers n5).mono ?_
    rintro e w6 ⟨v6, ts, rfl, ets, o6, b6⟩
    obtain ⟨a6, c6, rfl⟩ := o6.shape
    have B6 := B5.trans (b6.mono B5.size)
    have G6 := G5.below b6
    have T6 := T5.of (b6.block _ G5.1)
    have Q6 := Lib.hid o6
    have s6 := b6.size
    clear b6 r5 n5 o5 o6
    refine hK.out _ _ (KS.out _ B6) (fun hHeld => ?_)
    clear hK K
    obtain ⟨hg6, g6, gf6⟩ := G6
    have g60 := g6 0
    have g61 := g6 1
    simp at g60 g61
    refine wpAnyH_ready (rs := [7]) (by kernel_rfl) (by simp) ?_
    refine AllReadyH.cons rfl (fun K hK => ?_) AllReadyH.nil
    go_simp
    refine hK.out _ _ (KS.out _ ((B6.setCell (p := ⟨w3.heap.size, 0, none⟩) (Nat.le_refl _) _).setCell (p := ⟨w3.heap.size, 1, none⟩) (Nat.le_refl _) _)) (fun hHeld => ?_)
    clear hK K
    refine wpAnyH_done (by kernel_rfl) ?_ _
    refine NoPanic.normal ?_
    clear hHeld
    obtain ⟨w7, hw7⟩ : ∃ w7, w7 = (w6.setCell ⟨w3.heap.size, 0, none⟩ (.int .i64 root)).setCell ⟨w3.heap.size, 1, none⟩ (.slice a6 ts.length c6) := ⟨_, rfl⟩
    have B7 : Below w3.heap.size w3 w7 := by rw [hw7]; exact (B6.setCell (p := ⟨w3.heap.size, 0, none⟩) (Nat.le_refl _) _).setCell (p := ⟨w3.heap.size, 1, none⟩) (Nat.le_refl _) _
    have G7 : Loc w7 w3.heap.size #[.int .i64 root, .slice a6 ts.length c6] := by
      rw [hw7]
      exact ((Loc.set ⟨hg6, g6, gf6⟩ 0 (.int .i64 root) (by simp)).set 1 (.slice a6 ts.length c6) (by simp))
    have Q7 : Hid (OwnP w7 w5.heap.size (.slice a6 ts.length c6) ts) := Lib.hid (by
      rw [hw7]
      exact (Q6.out.store T6 0 _).store (T6.set _ _ _) 1 _)
    refine (by assumption : ∀ (a : Act) (w : World), _ → _) _ _ ?_
    rw [← hw7]
    clear hw7
    have K7 := Lib.hid (K3.out.below B7)
    have Y7 := Lib.hid (Y3.out.below B7)
    have P27 := Lib.hid ((rdS_ownsP P23.out).below B7)
    obtain ⟨hq7, kq, kqf⟩ := K7.out
    obtain ⟨-, gq, -⟩ := G7
    have kq0 := kq 0
    have kq1 := kq 1
    have kqf0 := kqf 0
    have kqf1 := kqf 1
    have gq0 := gq 0
    have gq1 := gq 1
    simp at kq0 kq1 gq0 gq1
    have hne : q ≠ w3.heap.size := by have := K3.out.1; omega
    clear kq kqf gq g60 g61
    obtain ⟨w8, hw8⟩ : ∃ w8, w8 = (w7.setCell ⟨q, 0, none⟩ (.int .i64 root)).setCell ⟨q, 1, none⟩ (.slice a6 ts.length c6) := ⟨_, rfl⟩
    have K8 : Loc w8 q #[.int .i64 root, .slice a6 ts.length c6] := by
      rw [hw8]
      exact (K7.out.set 0 (.int .i64 root) (by simp)).set 1 (.slice a6 ts.length c6) (by simp)
    have Y8 : Loc w8 qy #[.bool p.leaf, .slice a2 xb.length c2] := by
      rw [hw8]
      exact (Y7.out.other 0 _ (by omega)).other 1 _ (by omega)
    have yc0 := Y8.2.1 0
    have yc1 := Y8.2.1 1
    simp at yc0 yc1
    have TQ7 : TagT 26 w7 q := HB.out.tag.of (((B3.out.trans (B7.mono B3.out.size))).block q hqw)
    have Q8 : Hid (OwnP w8 w5.heap.size (.slice a6 ts.length c6) ts) := Lib.hid (by
      rw [hw8]
      exact (Q7.out.store TQ7 0 _).store (TQ7.set _ _ _) 1 _)
    have TQ8 : TagT 26 w8 q := by rw [hw8]; exact (TQ7.set _ _ _).set _ _ _
    have P28 : RdS itLay w8 a2 xb.length c2 xb := by
      rw [hw8]
      have h7 : OwnS itLay 92 w7 W0.heap.size (.slice a2 xb.length c2) xb := P23.out.below B7
      exact rdS_ownsP (ownS_set2 (ownS_set2 h7 (by omega) _ _) (by omega) _ _)
    have g8 : w.grownBy w8 (some q) := by
      rw [hw8]
      exact grown_setCell (grown_setCell (Below.toGrown (B3.out.trans (B7.mono B3.out.size)) _) _ _ _ rfl) _ _ _ rfl
    have z8 : w8.heap.size = w7.heap.size := by rw [hw8]; simp
    have Z8 : Hid (Loc w8 w.heap.size #[.int .i64 0, .int .i64 0, .int .i64 0, .int .i64 0, .int .i64 0]) := Lib.hid (by
      rw [hw8]
      exact ((Z3.out.below B7).other 0 _ (by omega)).other 1 _ (by omega))
    have CB : Hid (Calls Try.prog 129 #[.agg #[.bool p.leaf, .slice a2 xb.length c2]] w8 (RetBox (boxesV xb) w8)) := Lib.hid (sBoundOf_any p.leaf a2 xb.length c2 xb w8 P28 hxb)
    go_upto_region 7 with (fail)
    rw [← hw8]
    clear hw8 kq0 kq1 kqf0 kqf1 gq0 gq1
    go_wp2_with fail
    refine CB.out.mono ?_
    rintro e w9 ⟨rfl, b9⟩
    have Z9 := Z8.out.below b9
    obtain ⟨hz9, zc, zf⟩ := Z9
    have s9 := b9.size
    go_wp2_with fail
    obtain ⟨WF, hWF⟩ : ∃ WF, WF = (((((w9.setCell ⟨w.heap.size, 0, none⟩ (.int .i64 nl.2)).setCell ⟨w.heap.size, 1, none⟩ (.int .i64 (boxesV xb).x0)).setCell ⟨w.heap.size, 2, none⟩ (.int .i64 (boxesV xb).y0)).setCell ⟨w.heap.size, 3, none⟩ (.int .i64 (boxesV xb).x1)).setCell ⟨w.heap.size, 4, none⟩ (.int .i64 (boxesV xb).y1)) := ⟨_, rfl⟩
    have ZF : Loc WF w.heap.size #[.int .i64 nl.2, .int .i64 (boxesV xb).x0, .int .i64 (boxesV xb).y0, .int .i64 (boxesV xb).x1, .int .i64 (boxesV xb).y1] := by
      rw [hWF]
      exact ((((Loc.set ⟨hz9, zc, zf⟩ 0 (.int .i64 nl.2) (by simp)).set 1 (.int .i64 (boxesV xb).x0) (by simp)).set 2 (.int .i64 (boxesV xb).y0) (by simp)).set 3 (.int .i64 (boxesV xb).x1) (by simp)).set 4 (.int .i64 (boxesV xb).y1) (by simp)
    have cF : ChgIn w.heap.size (w.heap.size + 1) w9 WF := by
      rw [hWF]
      exact ChgIn.of_grown (row := some w.heap.size) (grown_setCell (grown_setCell (grown_setCell (grown_setCell (grown_setCell (World.grownBy.refl _ _) _ _ _ rfl) _ _ _ rfl) _ _ _ rfl) _ _ _ rfl) _ _ _ rfl) (fun g hg => by cases hg; omega)
    have gF : w.grownBy WF (some q) := by
      have h9 := grown_trans g8 (Below.toGrown b9 (some q))
      exact ⟨cF.os.trans h9.os, cF.tape.trans h9.tape, cF.output.trans h9.output, Nat.le_trans h9.size cF.size, fun k hk hn => (cF.block k (by have := h9.size; omega) (by omega)).trans (h9.block k hk hn)⟩
    have KF : Loc WF q #[.int .i64 root, .slice a6 ts.length c6] := (K8.below b9).of cF.size (cF.block q (K8.below b9).1 (by omega))
    have TF : TagT 26 WF q := (TQ8.of (b9.block q K8.1)).of (cF.block q (K8.below b9).1 (by omega))
    have QF : OwnP WF w5.heap.size (.slice a6 ts.length c6) ts := (Q8.out.below b9).frame.chg (Q8.out.below b9) cF (Nat.le_refl _) (Or.inr hz5)
    have zz := ZF.2.1
    rw [← hWF]
    refine bodyPost_ret (v := .tuple #[.agg #[.int .i64 nl.2, .int .i64 (boxesV xb).x0, .int .i64 (boxesV xb).y0, .int .i64 (boxesV xb).x1, .int .i64 (boxesV xb).y1], .bool true]) (by simp [results, Try.results137, go_sem, zz]) rfl ?_
    rw [hr.out]
    exact ⟨rfl, _, _, _, _, ⟨KF, TF, QF.rd, ets⟩, gF, fun o ho Z hz _ => QF.offB o (fun B e => by have := ho B e; omega) (fun k hk => by have := hz k hk; omega)⟩
end Go.Proofs.Ytfefggcfeppeiaa
