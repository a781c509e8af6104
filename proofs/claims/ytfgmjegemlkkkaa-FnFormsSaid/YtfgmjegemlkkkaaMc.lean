/- Texts of this seat laid together: FormG, FormC, FormMath, SameItems, SameNode, JoinAll, BoxS, BoundOf, ItemsOf, NodeC, DrawBox, DrawPair, DrawBoxes, DrawItem, DrawItems, Loc, DrawNode, Copy5, DrawNode2, StepGo, DrawNode3, DrawNode4, DrawNode5, DrawS. -/
import Derived.Test.YtfgmjegemlkkkaaMb
import Derived.BigQuiet
import Derived.Deep.RegionWith
import Derived.Deep.RegionLaw
import Derived.Calls
import Derived.Shelf.Abstract

/- The model's GetNode: a node whose bytes are given. -/
namespace Go.Proofs.Ytfgmjegemlkkkaa
open Go.RowKit
attribute [local go_sem ↓] Go.wp_at_zero Go.wp_at_succ

theorem eq_getD {zs ys : List Int} (hl : zs.length = ys.length) (h : ∀ j, j < zs.length → zs.getD j 0 = ys.getD j 0) : zs = ys := by
  rw [← gen_list zs 0 zs.length rfl, ← gen_list ys 0 zs.length hl.symm]
  exact gen_congr _ _ _ h

set_option maxRecDepth 100000 in
set_option maxHeartbeats 800000 in
theorem l6Same_any (a b : Option Addr) (n m c c' : Nat) (zs ys : List Int) (w : World) (h : RdI .u8 w a n c zs) (h' : RdI .u8 w b m c' ys) (hn : n ≤ 100000000) :
    Calls Try.prog 42 #[.slice a n c, .slice b m c'] w fun e w' => e = .returned (.bool (decide (zs = ys))) ∧ Below w.heap.size w w' := by
  have HL := Lib.hid h.1.1
  have HL' := Lib.hid h'.1.1
  have HR := Lib.hid h
  have HR' := Lib.hid h'
  clear h h'
  by_cases hlen : n = m
  · subst hlen
    go_enter Try.func42, Try.ntmps42
    go_wp2
    go_loopw [5] (fun i wr => ∃ k : Nat, k ≤ n ∧ i = .int .i64 k ∧ Hid (∀ j, j < k → zs.getD j 0 = ys.getD j 0) ∧ Below w.heap.size w wr) (fun i _ => n - (intOf i).toNat)
    case atStart => exact ⟨0, Nat.zero_le _, rfl, Lib.hid (fun j hj => by omega), Below.refl _ _⟩
    case round =>
      obtain ⟨k, hk, rfl, HA, hB⟩ := hrel
      by_cases hlt : k < n
      · obtain ⟨x, off, rfl, hc⟩ := HR.out.2 (by omega)
        obtain ⟨x', off', rfl, hc'⟩ := HR'.out.2 (by omega)
        have hck := hc k hlt
        have hck' := hc' k hlt
        have hbw : x < w.heap.size := World.block_lt_of_cell? w ⟨x, off + k, none⟩ hck
        have hbw' : x' < w.heap.size := World.block_lt_of_cell? w ⟨x', off' + k, none⟩ hck'
        rw [← hB.cell (p := ⟨x, off + k, none⟩) hbw] at hck
        rw [← hB.cell (p := ⟨x', off' + k, none⟩) hbw'] at hck'
        clear hc hc'
        have h0 : (0 : Int) ≤ k := by omega
        have h1 : (k : Int) < n := by omega
        obtain ⟨p, hp⟩ : ∃ p, zs.getD k 0 = p := ⟨_, rfl⟩
        obtain ⟨q, hq⟩ : ∃ q, ys.getD k 0 = q := ⟨_, rfl⟩
        rw [hp] at hck
        rw [hq] at hck'
        by_cases he : p = q
        · subst he
          have HS : Hid (∀ j, j < k + 1 → zs.getD j 0 = ys.getD j 0) := Lib.hid (fun j hj => by
            by_cases hjk : j < k
            · exact HA.out j hjk
            · obtain rfl : j = k := by omega
              rw [hp, hq])
          clear hp hq
          go_wp2
          go_quiet (fail)
          go_wp2
          go_roundw
          case rel => exact ⟨k + 1, by omega, by go_num, HS, below_drewN hB _⟩
          case measure => simp [intOf]; omega
        · have hne : (p != q) = true := by rw [bne_iff_ne]; exact he
          have HF : Hid (decide (zs = ys) = false) := Lib.hid (decide_eq_false (fun e => he (by rw [← hp, ← hq, e])))
          clear he hp hq
          go_wp2
          go_quiet (fail)
          go_wp2
          go_ret
          exact ⟨ret_bool HF.out.symm, below_drewN hB _⟩
      · have HF : Hid (decide (zs = ys) = true) := Lib.hid (decide_eq_true (eq_getD (by rw [HL.out, HL'.out]) (fun j hj => HA.out j (by rw [HL.out] at hj; omega))))
        go_wp2
        go_ret
        exact ⟨ret_bool HF.out.symm, hB⟩
  · have HF : Hid (decide (zs = ys) = false) := Lib.hid (decide_eq_false (fun e => hlen (by rw [← HL.out, ← HL'.out, e])))
    have hne : ((n : Int) != (m : Int)) = true := by rw [bne_iff_ne]; omega
    clear hlen
    go_enter Try.func42, Try.ntmps42
    go_wp2
    go_ret
    exact ⟨ret_bool HF.out.symm, Below.refl _ _⟩

theorem zero_res {w2 : World} {q : Nat} {u v a b : Value} (h : ∀ o, w2.cell? ⟨q, o, none⟩ = #[a, b][o]?) : ∀ o, ((w2.setCell ⟨q, 0, none⟩ u).setCell ⟨q, 1, none⟩ v).cell? ⟨q, o, none⟩ = #[u, v][o]? := by
  intro o
  rcases (by omega : o = 0 ∨ o = 1 ∨ 2 ≤ o) with rfl | rfl | ho
  · rw [World.cell?_setCell_other _ _ _ _ (by simp), World.cell?_setCell_same' _ _ _ (by rw [h 0]; rfl)]; rfl
  · rw [World.cell?_setCell_same' _ _ _ (by rw [World.cell?_setCell_other _ _ _ _ (by simp), h 1]; rfl)]; rfl
  · rw [World.cell?_setCell_other _ _ _ _ (fun e => by cases e; omega), World.cell?_setCell_other _ _ _ _ (fun e => by cases e; omega), h o]
    rw [Array.getElem?_eq_none (by simp; omega), Array.getElem?_eq_none (by simp; omega)]
theorem news2' (wr : World) (O : Obj) (cs : Array Value) (t : TypeId) (l : List Value) (hl : cs.toList = l) : ∀ j u, l[j]? = some u → ((wr.alloc O).alloc (.cells cs t)).cell? ((⟨wr.heap.size + 1, 0, none⟩ : Addr).add j) = some u := by
  subst hl
  have e : (wr.alloc O).heap.size = wr.heap.size + 1 := by simp
  rw [← e]
  exact World.news_of_block (cs := cs) (t := t) (fr := (0, 0)) (heap_alloc_new (wr.alloc O) _)
/-- The first k entries, if all of them are. -/
def hasAll (bs : List Int) : Nat → Bool
  | 0 => true
  | k + 1 => hasAll bs k && hasE bs (1 + 6 * (k : Int))
def rawAll (bs : List Int) : Nat → List It
  | 0 => []
  | k + 1 => rawAll bs k ++ [rawE bs (1 + 6 * k)]
theorem rawAll_len (bs : List Int) : ∀ k, (rawAll bs k).length = k
  | 0 => rfl
  | k + 1 => by rw [rawAll, List.length_append, rawAll_len bs k]; rfl
theorem hasAll_no {bs : List Int} {k : Nat} (h : hasE bs (1 + 6 * (k : Int)) = false) : ∀ m, k < m → hasAll bs m = false
  | m + 1, hm => by
    by_cases e : k = m
    · subst e; rw [hasAll, h, Bool.and_false]
    · rw [hasAll, hasAll_no h m (by omega), Bool.false_and]
def cntN (bs : List Int) : Nat := (bs.getD 0 0 % 16).toNat
/-- The entries that are read. -/
def listN (bs : List Int) : List It := if cntN bs ≤ 4 then rawAll bs (cntN bs) else []
def leafN (bs : List Int) : Bool := decide (bs.getD 0 0 ≥ 16)
def okN (bs : List Int) : Bool := decide (bs.length = 25) && (decide (cntN bs ≤ 4 → hasAll bs (cntN bs) = true) && decide (putN (leafN bs) (listN bs) = bs))
/-- GetNode: the node, or the zero one. -/
def RetN (bs : List Int) (w : World) (e : Ending) (w' : World) : Prop := ∃ v, e = .returned (.tuple #[.agg #[.bool (okN bs && leafN bs), v], .bool (okN bs)]) ∧ OwnS itLay 35 w' w.heap.size v (if okN bs then listN bs else []) ∧ Below w.heap.size w w'
theorem okN_len {bs : List Int} (h : bs.length ≠ 25) : okN bs = false := by unfold okN; rw [decide_eq_false h, Bool.false_and]
theorem okN_has {bs : List Int} {k : Nat} (h : hasE bs (1 + 6 * (k : Int)) = false) (hk : k < cntN bs) (h4 : cntN bs ≤ 4) : okN bs = false := by
  unfold okN
  have h1 := hasAll_no h _ hk
  rw [show decide (cntN bs ≤ 4 → hasAll bs (cntN bs) = true) = false from decide_eq_false (fun hh => by rw [hh h4] at h1; cases h1), Bool.false_and, Bool.and_false]
theorem okN_end {bs : List Int} (h : bs.length = 25) (h1 : cntN bs ≤ 4 → hasAll bs (cntN bs) = true) : okN bs = decide (putN (leafN bs) (listN bs) = bs) := by
  unfold okN
  rw [decide_eq_true h, decide_eq_true h1]
  rfl
theorem retN_no {bs : List Int} {w w' : World} (h : okN bs = false) (hB : Below w.heap.size w w') : RetN bs w (.returned (.tuple #[.agg #[.bool false, .slice none 0 0], .bool false])) w' := by
  refine ⟨.slice none 0 0, by rw [h]; rfl, ?_, hB⟩
  rw [h]
  exact ownS_none w' 35 w.heap.size

theorem putN_le (b : Bool) (xs : List It) : (putN b xs).length ≤ 100000000 := by
  unfold putN
  split
  · rename_i h
    have h1 := pad_le (bodyN b xs) 25
    have h2 := partN_le b xs xs.length
    rw [partN_all (Nat.le_refl _)] at h2
    have h3 := nodeOkV_len h
    omega
  · simp

set_option maxHeartbeats 3200000 in
set_option maxRecDepth 100000 in
theorem sGetNode_any (a : Option Addr) (n c : Nat) (bs : List Int) (w : World) (h : RdI .u8 w a n c bs) (hz : ∀ j, 0 ≤ bs.getD j 0 ∧ bs.getD j 0 ≤ 255) (hn : n ≤ 100000000) :
    Calls Try.prog 13 #[.slice a n c] w (RetN bs w) := by
  obtain ⟨i0, hi, hz0, hz1, hz2⟩ := info_parts Try.infoEntry
  replace hi := Lib.hid hi
  replace hz0 := Lib.hid hz0
  replace hz1 := Lib.hid hz1
  replace hz2 := Lib.hid hz2
  have HL := Lib.hid h.1.1
  have HR := Lib.hid h
  by_cases h25 : n = 25
  · subst h25
    obtain ⟨b, off, rfl, hc⟩ := h.2 (by omega)
    have c0 := hc 0 (by omega)
    rw [Nat.add_zero] at c0
    have hbl : b < w.heap.size := World.block_lt_of_cell? w ⟨b, off, none⟩ c0
    obtain ⟨q, hq⟩ : ∃ q, bs.getD 0 0 = q := ⟨_, rfl⟩
    obtain ⟨q0, q1⟩ := hz 0
    rw [hq] at c0 q0 q1
    obtain ⟨kk, hkk⟩ : ∃ kk : Nat, cntN bs = kk := ⟨_, rfl⟩
    have hq16 : q % 16 = (kk : Int) := by rw [← hkk]; unfold cntN; rw [hq]; omega
    have hk16 : kk < 16 := by omega
    have hmod : q.tmod 16 = (kk : Int) := by rw [Int.tmod_eq_emod_of_nonneg q0]; exact hq16
    have hlf : Hid (leafN bs = decide (q ≥ 16)) := by show leafN bs = _; unfold leafN; rw [hq]
    obtain ⟨lf, hlf2⟩ : ∃ lf, leafN bs = lf := ⟨_, rfl⟩
    rw [hlf2] at hlf
    have hz' := Lib.hid hz
    replace hkk := Lib.hid hkk
    have K := Lib.hid (blk_alloc (.cells #[.bool lf, .slice none 0 0] 26) (by simp) _ _ (blk_new w #[.bool false, .slice none 0 0] 26))
    have J := Lib.hid (blk_new1 w (.cells #[.bool false, .slice none 0 0] 26) #[.bool lf, .slice none 0 0] 26)
    have B0 : Hid (Below w.heap.size w ((w.alloc (.cells #[.bool false, .slice none 0 0] 26)).alloc (.cells #[.bool lf, .slice none 0 0] 26))) := Lib.hid (((Below.refl _ _).alloc (Nat.le_refl _) _).alloc (by simp) _)
    replace hlf2 := Lib.hid hlf2
    have hq' := hlf.out.symm
    clear h hc hz hq hq16
    go_enter Try.func13, Try.ntmps13
    go_wp2
    clear c0 hmod
    by_cases h4 : kk ≤ 4
    · go_loopw [6] (fun i wr => ∃ (k : Nat) (va : Option Addr) (vc : Nat), k ≤ kk ∧ i = .int .i64 (k : Int) ∧ Hid (hasAll bs k = true) ∧ (∀ o, wr.cell? ⟨w.heap.size, o, none⟩ = #[Value.bool false, .slice none 0 0][o]?) ∧ (∀ o, wr.frozen? ⟨w.heap.size, o, none⟩ = false) ∧ (∀ o, wr.cell? ⟨w.heap.size + 1, o, none⟩ = #[Value.bool lf, .slice va k vc][o]?) ∧ (∀ o, wr.frozen? ⟨w.heap.size + 1, o, none⟩ = false) ∧ Hid (OwnS itLay 35 wr (w.heap.size + 2) (.slice va k vc) (rawAll bs k)) ∧ Below w.heap.size w wr ∧ w.heap.size + 1 < wr.heap.size) (fun i _ => kk - (intOf i).toNat)
      case atStart => exact ⟨0, none, 0, Nat.zero_le _, rfl, rfl, K.out.1, K.out.2, J.out.1, J.out.2, Lib.hid (ownS_none _ _ _), B0.out, by simp⟩
      case round =>
        clear K J B0
        obtain ⟨k, va, vc, hk, rfl, HA, j0, f0, k0, g0, HO, hB, hS⟩ := hrel
        have z4 : (kk : Int) ≤ 4 := by omega
        by_cases hlt : k < kk
        · have z1 : (k : Int) < kk := by omega
          obtain ⟨y, hy⟩ : ∃ y, getE bs (1 + 6 * (k : Int)) = y := ⟨_, rfl⟩
          have CE := sGetEntry_any (some ⟨b, off, none⟩) 25 c bs (1 + 6 * (k : Int)) wr (HR.out.below hB) hz'.out (by omega) (wf_small _ (by omega) (by omega))
          rw [hy] at CE
          cases hh : hasE bs (1 + 6 * (k : Int)) with
          | false =>
            rw [hh] at CE
            replace CE := Lib.hid CE
            have hok : Hid (okN bs = false) := Lib.hid (okN_has hh (by rw [hkk.out]; exact hlt) (by rw [hkk.out]; exact h4))
            clear hh hy
            go_wp2_with fail
            refine CE.out.mono ?_
            rintro e w2 ⟨rfl, b2⟩
            obtain ⟨j2, f2⟩ := below_keep b2 (by omega) _ _ ⟨j0, f0⟩
            have s2 := b2.size
            have B2 := Lib.hid (hB.trans (b2.mono hB.size))
            have hq2 : w.heap.size < w2.heap.size := by omega
            have hq3 : w.heap.size ≠ w2.heap.size := by omega
            have j5 : ∀ o, (((w2.setCell ⟨w.heap.size, 0, none⟩ (.bool false)).setCell ⟨w.heap.size, 1, none⟩ (.slice none 0 0)).alloc (.cells #[.int .i64 y.id, .int .i64 y.x0, .int .i64 y.y0, .int .i64 y.x1, .int .i64 y.y1] 35)).cell? ⟨w.heap.size, o, none⟩ = #[Value.bool false, .slice none 0 0][o]? := fun o =>
              (World.cell?_alloc_lt _ _ ⟨w.heap.size, o, none⟩ (by simp; omega)).trans (zero_res j2 o)
            clear b2 hB HO
            go_wp2
            refine bodyPost_ret (v := .tuple #[.agg #[.bool false, .slice none 0 0], .bool false]) (by simp [results, Try.results13, go_sem, j5]) rfl ?_
            exact retN_no hok.out (((B2.out.setCell (p := ⟨w.heap.size, 0, none⟩) (Nat.le_refl _) _).setCell (p := ⟨w.heap.size, 1, none⟩) (Nat.le_refl _) _).alloc (by simp; omega) _)
          | true =>
            have hy2 := hy.symm.trans (getE_yes hh)
            rw [show (1 + 6 * (k : Int)).toNat = 1 + 6 * k by omega] at hy2
            have HA2 : Hid (hasAll bs (k + 1) = true) := by
              show hasAll bs (k + 1) = true
              rw [hasAll, HA.out, hh]
              rfl
            have HY : Hid (rawAll bs (k + 1) = rawAll bs k ++ [y]) := by
              show rawAll bs (k + 1) = _
              rw [rawAll, hy2]
            rw [hh] at CE
            replace CE := Lib.hid CE
            clear hh hy hy2
            go_wp2_with fail
            refine CE.out.mono ?_
            rintro e w2 ⟨rfl, b2⟩
            obtain ⟨j2, f2⟩ := below_keep b2 (by omega) _ _ ⟨j0, f0⟩
            obtain ⟨k2, g2⟩ := below_keep b2 (by omega) _ _ ⟨k0, g0⟩
            have s2 := b2.size
            have hO2 := OwnS.below HO.out b2
            have HO2 : Hid (w2.ownsRow (w.heap.size + 2) 35 5 (.slice va k vc) k ((rawAll bs k).flatMap itLay.cells)) := by
              have := hO2
              unfold OwnS at this
              rw [rawAll_len] at this
              exact Lib.hid this
            have B2 := hB.trans (b2.mono hB.size)
            have c1 := k2 1
            simp at c1
            have hq2 : w.heap.size + 1 < w2.heap.size := by omega
            have l1 := (World.cell?_alloc_lt w2 (.cells #[.int .i64 y.id, .int .i64 y.x0, .int .i64 y.y0, .int .i64 y.x1, .int .i64 y.y1] 35) ⟨w.heap.size + 1, 1, none⟩ hq2).trans c1
            clear b2 hB HO hO2 j0 f0 k0 g0 CE
            go_wp2_with (at_builtin; refine append_src rfl (.tmp 44) (.tmp 46) 24 rfl (w.heap.size + 2) 35 i0 _ 5 40 Try.underlying24 hi.out hz0.out hz1.out hz2.out rfl (by decide) (.slice va k vc) k ((rawAll bs k).flatMap itLay.cells) rfl (World.ownsRow.alloc (World.ownsRow.alloc HO2.out _) _) (some ⟨w2.heap.size + 1, 0, none⟩) 1 1 (itLay.cells y) rfl rfl (fun h => by cases h) ?_ (itLay.one _) ?_ ?_ ?_ ?_)
            case refine_1 =>
              intro p hp
              cases hp
              exact news2' w2 _ _ _ _ rfl
            case refine_2 => unfold maxLen; omega
            case refine_3 => omega
            case refine_4 => simp; omega
            intro v3 w3 o3 g3
            obtain ⟨a3, c3, rfl⟩ := owns_shape o3
            have hrow : ∀ j, (Value.slice va k vc).ownBlock = some j → w.heap.size + 2 ≤ j := fun j hj => (HO2.out.lt j hj).1
            have hsz : w2.heap.size ≤ ((w2.alloc (.cells #[.int .i64 y.id, .int .i64 y.x0, .int .i64 y.y0, .int .i64 y.x1, .int .i64 y.y1] 35)).alloc (.cells #[.int .i64 y.id, .int .i64 y.x0, .int .i64 y.y0, .int .i64 y.x1, .int .i64 y.y1] 35)).heap.size := by simp; omega
            have hcell : ∀ q, q < w2.heap.size → q < w.heap.size + 2 → w3.heap[q]? = w2.heap[q]? := fun q hq hq2 =>
              (g3.block q (by omega) (fun e => by have := hrow q e.symm; omega)).trans ((Below.heap_alloc _ _ q (by simp; omega)).trans (Below.heap_alloc w2 _ q hq))
            have j3 : ∀ o, w3.cell? ⟨w.heap.size, o, none⟩ = #[Value.bool false, .slice none 0 0][o]? := fun o => (cell_of_heap (hcell _ (by omega) (by omega)) o).trans (j2 o)
            have f3 : ∀ o, w3.frozen? ⟨w.heap.size, o, none⟩ = false := fun o => (frozen_of_heap (hcell _ (by omega) (by omega)) o).trans (f2 o)
            have k3 : ∀ o, w3.cell? ⟨w.heap.size + 1, o, none⟩ = #[Value.bool lf, .slice va k vc][o]? := fun o => (cell_of_heap (hcell _ (by omega) (by omega)) o).trans (k2 o)
            have e3 : ∀ o, w3.frozen? ⟨w.heap.size + 1, o, none⟩ = false := fun o => (frozen_of_heap (hcell _ (by omega) (by omega)) o).trans (g2 o)
            have O3 : OwnS itLay 35 w3 (w.heap.size + 2) (.slice a3 (k + 1) c3) (rawAll bs (k + 1)) := by
              unfold OwnS
              rw [HY.out, List.length_append, rawAll_len, List.flatMap_append, List.flatMap_cons, List.flatMap_nil, List.append_nil]
              exact o3
            have O4 := Lib.hid (ownS_set O3 (g := w.heap.size + 1) (fun hj => by have := (World.ownsRow.lt O3 _ hj).1; omega) 1 (.slice a3 (k + 1) c3))
            have B3 := Lib.hid ((((B2.alloc B2.size (.cells #[.int .i64 y.id, .int .i64 y.x0, .int .i64 y.y0, .int .i64 y.x1, .int .i64 y.y1] 35)).alloc (by simp; omega) (.cells #[.int .i64 y.id, .int .i64 y.x0, .int .i64 y.y0, .int .i64 y.x1, .int .i64 y.y1] 35)).grown g3 (by simp; omega) (fun j hj => by have := hrow j hj; omega)).setCell (p := ⟨w.heap.size + 1, 1, none⟩) (show w.heap.size ≤ w.heap.size + 1 by omega) (.slice a3 (k + 1) c3))
            have C3 := Lib.hid (cells_set1 k3 (.slice a3 (k + 1) c3))
            have s3 := g3.size
            simp at s3
            have s4 : w.heap.size + 1 < w3.heap.size := by omega
            clear o3 g3 O3 hcell hrow hsz
            go_wp2
            go_roundw
            case rel =>
              refine ⟨k + 1, a3, c3, by omega, by go_num, HA2, fun o => ?_, fun o => ?_, C3.out, fun o => ?_, O4, B3.out, by simpa using s4⟩
              · exact (World.cell?_setCell_other _ _ _ _ (by simp)).trans (j3 o)
              · exact (World.frozen?_setCell _ _ _ _).trans (f3 o)
              · exact (World.frozen?_setCell _ _ _ _).trans (e3 o)
            case measure => simp [intOf]; omega
        · obtain rfl : k = kk := by omega
          have hE : Hid (okN bs = decide (putN lf (rawAll bs k) = bs)) := by
            show okN bs = _
            rw [okN_end HL.out (fun _ => by rw [hkk.out]; exact HA.out), hlf2.out]
            unfold listN
            rw [hkk.out, if_pos h4]
          have hls : Hid (listN bs = rawAll bs k) := by
            show listN bs = _
            unfold listN
            rw [hkk.out, if_pos h4]
          have HRD : Hid (RdS itLay wr va k vc (rawAll bs k)) := by
            have := rdS_owns HO.out
            rw [rawAll_len] at this
            exact Lib.hid this
          have CP := Lib.hid (sPutNode_any lf va k vc (rawAll bs k) wr HRD.out)
          go_wp2_with fail
          refine CP.out.mono ?_
          rintro e w5 ⟨v5, rfl, o5, b5⟩
          obtain ⟨a5, c5, rfl, r5⟩ := Own.rd o5
          obtain ⟨pl, hpl⟩ : ∃ pl, (putN lf (rawAll bs k)).length = pl := ⟨_, rfl⟩
          rw [hpl] at r5
          rw [hpl]
          have hpl2 : pl ≤ 100000000 := by rw [← hpl]; exact putN_le _ _
          have B5 := Lib.hid (hB.trans (b5.mono hB.size))
          have J5 := Lib.hid (below_keep b5 (by omega) _ _ ⟨j0, f0⟩)
          have K5 := Lib.hid (below_keep b5 (by omega) _ _ ⟨k0, g0⟩)
          have CS := Lib.hid (l6Same_any a5 (some ⟨b, off, none⟩) pl 25 c5 c _ bs w5 r5 (HR.out.below B5.out) hpl2)
          have HO5 := Lib.hid (OwnS.below HO.out b5)
          have s5 := b5.size
          clear o5 r5 b5 j0 f0 k0 g0 HO hB CP HRD
          go_wp2_with fail
          refine CS.out.mono ?_
          rintro e w6 ⟨rfl, b6⟩
          have B6 := Lib.hid (B5.out.trans (b6.mono B5.out.size))
          obtain ⟨j0, f0⟩ := below_keep b6 (by omega) _ _ J5.out
          obtain ⟨k0, g0⟩ := below_keep b6 (by omega) _ _ K5.out
          have HO6 := Lib.hid (OwnS.below HO5.out b6)
          have s6 := b6.size
          clear b6 J5 K5 HO5 B5 CS
          have hG : w.heap.size ≠ w.heap.size + 1 := by omega
          obtain ⟨dd, hdd⟩ : ∃ dd, decide (putN lf (rawAll bs k) = bs) = dd := ⟨_, rfl⟩
          have hE2 := Lib.hid (hE.out.trans hdd)
          rw [hdd]
          clear hdd
          cases dd with
          | true =>
            have hok : Hid (okN bs = true) := hE2
            go_wp2
            refine bodyPost_ret (v := .tuple #[.agg #[.bool lf, .slice va k vc], .bool true]) (by simp [results, Try.results13, go_sem, j0]) rfl ?_
            refine ⟨.slice va k vc, by rw [hok.out, hlf2.out]; rfl, ?_, (B6.out.setCell (p := ⟨w.heap.size, 0, none⟩) (Nat.le_refl _) _).setCell (p := ⟨w.heap.size, 1, none⟩) (Nat.le_refl _) _⟩
            rw [hok.out, if_pos rfl, hls.out]
            have O := ownS_set (ownS_set HO6.out (g := w.heap.size) (fun hj => by have := (HO6.out.lt _ hj).1; omega) 0 (.bool lf)) (g := w.heap.size) (fun hj => by have := (HO6.out.lt _ hj).1; omega) 1 (.slice va k vc)
            exact OwnS.mono (L := itLay) O (by omega)
          | false =>
            have hok : Hid (okN bs = false) := hE2
            go_wp2
            refine bodyPost_ret (v := .tuple #[.agg #[.bool false, .slice none 0 0], .bool false]) (by simp [results, Try.results13, go_sem, j0]) rfl ?_
            exact retN_no hok.out ((B6.out.setCell (p := ⟨w.heap.size, 0, none⟩) (Nat.le_refl _) _).setCell (p := ⟨w.heap.size, 1, none⟩) (Nat.le_refl _) _)
    · have z4 : ¬ (kk : Int) ≤ 4 := by omega
      have z0 : (0 : Int) < kk := by omega
      obtain ⟨va, hva⟩ : ∃ va : Option Addr, va = none := ⟨_, rfl⟩
      obtain ⟨vc, hvc⟩ : ∃ vc : Nat, vc = 0 := ⟨_, rfl⟩
      go_loopw [6] (fun i wr => i = .int .i64 0 ∧ wr = (w.alloc (.cells #[.bool false, .slice none 0 0] 26)).alloc (.cells #[.bool lf, .slice none 0 0] 26)) (fun _ _ => 0)
      case atStart => exact ⟨rfl, rfl⟩
      case round =>
        obtain ⟨rfl, rfl⟩ := hrel
        have hE : Hid (okN bs = decide (putN lf [] = bs)) := by
          show okN bs = _
          rw [okN_end HL.out (fun h => absurd h (by rw [hkk.out]; exact h4)), hlf2.out]
          unfold listN
          rw [hkk.out, if_neg h4]
        have hls : Hid (listN bs = []) := by
          show listN bs = _
          unfold listN
          rw [hkk.out, if_neg h4]
        obtain ⟨wr, hwr⟩ : ∃ wr, wr = (w.alloc (.cells #[.bool false, .slice none 0 0] 26)).alloc (.cells #[.bool lf, .slice none 0 0] 26) := ⟨_, rfl⟩
        rw [← hwr] at B0 K J
        rw [← hwr]
        have hB := B0.out
        obtain ⟨j0, f0⟩ := K.out
        obtain ⟨k0, g0⟩ := J.out
        have hS : w.heap.size + 1 < wr.heap.size := by rw [hwr]; simp
        have HO : Hid (OwnS itLay 35 wr (w.heap.size + 2) (.slice none 0 0) []) := Lib.hid (ownS_none _ _ _)
        have HRD : Hid (RdS itLay wr none 0 0 []) := Lib.hid (rdS_nil _)
        clear hwr B0 K J
        have CP := Lib.hid (sPutNode_any lf none 0 0 [] wr HRD.out)
        go_wp2_with fail
        refine CP.out.mono ?_
        rintro e w5 ⟨v5, rfl, o5, b5⟩
        obtain ⟨a5, c5, rfl, r5⟩ := Own.rd o5
        obtain ⟨pl, hpl⟩ : ∃ pl, (putN lf []).length = pl := ⟨_, rfl⟩
        rw [hpl] at r5
        rw [hpl]
        have hpl2 : pl ≤ 100000000 := by rw [← hpl]; exact putN_le _ _
        have B5 := Lib.hid (hB.trans (b5.mono hB.size))
        have J5 := Lib.hid (below_keep b5 (by omega) _ _ ⟨j0, f0⟩)
        have K5 := Lib.hid (below_keep b5 (by omega) _ _ ⟨k0, g0⟩)
        have CS := Lib.hid (l6Same_any a5 (some ⟨b, off, none⟩) pl 25 c5 c _ bs w5 r5 (HR.out.below B5.out) hpl2)
        have HO5 := Lib.hid (OwnS.below HO.out b5)
        have s5 := b5.size
        clear o5 r5 b5 j0 f0 k0 g0 HO hB CP HRD
        go_wp2_with fail
        refine CS.out.mono ?_
        rintro e w6 ⟨rfl, b6⟩
        have B6 := Lib.hid (B5.out.trans (b6.mono B5.out.size))
        obtain ⟨j0, f0⟩ := below_keep b6 (by omega) _ _ J5.out
        obtain ⟨k0, g0⟩ := below_keep b6 (by omega) _ _ K5.out
        have HO6 := Lib.hid (OwnS.below HO5.out b6)
        have s6 := b6.size
        clear b6 J5 K5 HO5 B5 CS
        have hG : w.heap.size ≠ w.heap.size + 1 := by omega
        obtain ⟨dd, hdd⟩ : ∃ dd, decide (putN lf [] = bs) = dd := ⟨_, rfl⟩
        have hE2 := Lib.hid (hE.out.trans hdd)
        rw [hdd]
        clear hdd
        cases dd with
        | true =>
          have hok : Hid (okN bs = true) := hE2
          go_wp2
          refine bodyPost_ret (v := .tuple #[.agg #[.bool lf, .slice none 0 0], .bool true]) (by simp [results, Try.results13, go_sem, j0]) rfl ?_
          refine ⟨.slice none 0 0, by rw [hok.out, hlf2.out]; rfl, ?_, (B6.out.setCell (p := ⟨w.heap.size, 0, none⟩) (Nat.le_refl _) _).setCell (p := ⟨w.heap.size, 1, none⟩) (Nat.le_refl _) _⟩
          rw [hok.out, if_pos rfl, hls.out]
          have O := ownS_set (ownS_set HO6.out (g := w.heap.size) (fun hj => by have := (HO6.out.lt _ hj).1; omega) 0 (.bool lf)) (g := w.heap.size) (fun hj => by have := (HO6.out.lt _ hj).1; omega) 1 (.slice none 0 0)
          exact OwnS.mono (L := itLay) O (by omega)
        | false =>
          have hok : Hid (okN bs = false) := hE2
          go_wp2
          refine bodyPost_ret (v := .tuple #[.agg #[.bool false, .slice none 0 0], .bool false]) (by simp [results, Try.results13, go_sem, j0]) rfl ?_
          exact retN_no hok.out ((B6.out.setCell (p := ⟨w.heap.size, 0, none⟩) (Nat.le_refl _) _).setCell (p := ⟨w.heap.size, 1, none⟩) (Nat.le_refl _) _)
  · have hne : ((n : Int) != 25) = true := by rw [bne_iff_ne]; omega
    have hok : Hid (okN bs = false) := Lib.hid (okN_len (by rw [HL.out]; exact h25))
    have B0 := Lib.hid (new_below w (.cells #[.bool false, .slice none 0 0] 26))
    clear h h25
    go_enter Try.func13, Try.ntmps13
    go_wp2
    refine bodyPost_ret (v := .tuple #[.agg #[.bool false, .slice none 0 0], .bool false]) (by simp [results, Try.results13, go_sem]) rfl ?_
    exact retN_no hok.out B0.out
end Go.Proofs.Ytfgmjegemlkkkaa

/- What the program's functions on node encodings are to answer (to be proved of the landed code). -/
namespace Go.Proofs.Ytfgmjegemlkkkaa
open Go.RowKit

def RetN3 (ok lf : Bool) (l : List It) (w : World) (e : Ending) (w' : World) : Prop := ∃ v, e = .returned (.tuple #[.agg #[.bool lf, v], .bool ok]) ∧ OwnS itLay 35 w' w.heap.size v l ∧ Below w.heap.size w w'
def CPutEntry (f : FuncId) : Prop := ∀ (x : It) (w : World),
  Calls Try.prog f #[.agg #[.int .i64 x.id, .int .i64 x.x0, .int .i64 x.y0, .int .i64 x.x1, .int .i64 x.y1]] w (Fresh8 w (putE x))
def CGetEntry (f : FuncId) : Prop := ∀ (a : Option Addr) (n c : Nat) (bs : List Int) (x : Int) (w : World), RdI .u8 w a n c bs → (∀ j, 0 ≤ bs.getD j 0 ∧ bs.getD j 0 ≤ 255) → n ≤ 100000000 → (Lit.int .i64 x).wf = true →
  Calls Try.prog f #[.slice a n c, .int .i64 x] w (RetE (getE bs x) (hasE bs x) w)
def CPutNode (f : FuncId) : Prop := ∀ (b : Bool) (a : Option Addr) (n cap : Nat) (xs : List It) (w : World), RdS itLay w a n cap xs → n ≤ 1099511627776 →
  Calls Try.prog f #[.agg #[.bool b, .slice a n cap]] w (Fresh8 w (putN b xs))
def CGetNode (f : FuncId) : Prop := ∀ (a : Option Addr) (n c : Nat) (bs : List Int) (w : World), RdI .u8 w a n c bs → (∀ j, 0 ≤ bs.getD j 0 ∧ bs.getD j 0 ≤ 255) → n ≤ 100000000 →
  Calls Try.prog f #[.slice a n c] w (RetN bs w)
theorem listN_len (bs : List Int) : (if okN bs then listN bs else []).length ≤ 4 := by
  split
  · unfold listN
    split
    · rw [rawAll_len]; assumption
    · exact Nat.zero_le _
  · exact Nat.zero_le _
theorem rows_apart {w w' : World} {base base' : Nat} {e e' : TypeId} {size size' : Nat} {v v' : Value} {n n' : Nat} {xs xs' : List Value} (h : w.ownsRow base e size v n xs) (h' : w'.ownsRow base' e' size' v' n' xs') (hb : w.heap.size ≤ base') : Apart v v' := by
  intro g hv hv'
  have h1 := World.ownsRow.lt h g hv
  have h2 := World.ownsRow.lt h' g hv'
  omega
theorem rdB {k : IntKind} {e : TypeId} {w : World} {base : Nat} {a : Option Addr} {n cap : Nat} {zs : List Int} (h : Own k e w base (.slice a n cap) zs) : RdI k w a zs.length cap zs := by
  obtain ⟨a', c', hv, hr⟩ := h.rd
  simp only [Value.slice.injEq] at hv
  obtain ⟨rfl, -, rfl⟩ := hv
  exact hr
end Go.Proofs.Ytfgmjegemlkkkaa

/- A node is decoded from its encoding: the mathematics. -/
namespace Go.Proofs.Ytfgmjegemlkkkaa
open Go.RowKit

theorem flat6 (f : It → List Int) : ∀ (xs : List It), (∀ x ∈ xs, (f x).length = 6) → ∀ (k : Nat) (x : It), xs[k]? = some x → ∀ j, j < 6 → (xs.flatMap f)[6 * k + j]? = (f x)[j]?
  | [], _, k, x, h, _, _ => by simp at h
  | y :: l, hl, 0, x, h, j, hj => by
    obtain rfl : y = x := by simpa using h
    rw [List.flatMap_cons, List.getElem?_append_left (by rw [hl y (List.mem_cons_self)]; omega), Nat.mul_zero, Nat.zero_add]
  | y :: l, hl, k + 1, x, h, j, hj => by
    have h6 := hl y (List.mem_cons_self)
    rw [List.flatMap_cons, List.getElem?_append_right (by omega), h6, show 6 * (k + 1) + j - 6 = 6 * k + j by omega]
    exact flat6 f l (fun x hx => hl x (List.mem_cons_of_mem _ hx)) k x (by simpa using h) j hj
theorem flat6_len (f : It → List Int) : ∀ (xs : List It), (∀ x ∈ xs, (f x).length = 6) → (xs.flatMap f).length = 6 * xs.length
  | [], _ => rfl
  | y :: l, hl => by
    rw [List.flatMap_cons, List.length_append, hl y (List.mem_cons_self), flat6_len f l (fun x hx => hl x (List.mem_cons_of_mem _ hx)), List.length_cons]
    omega
theorem nodeAll_all (b : Bool) (xs : List It) : ∀ (l : List It) (k : Int), nodeAll b xs l k = true → ∀ x ∈ l, okB x.x0 x.y0 x.x1 x.y1 = true ∧ 0 ≤ x.id ∧ x.id ≤ 65535
  | [], _, _, x, hx => by cases hx
  | y :: l, k, h, x, hx => by
    rw [nodeAll, Bool.and_eq_true] at h
    rcases List.mem_cons.1 hx with rfl | hx
    · have h1 := h.1
      unfold entOk inB at h1
      simp only [Bool.and_eq_true] at h1
      refine ⟨h1.1.1, ?_⟩
      have h2 := h1.2
      split at h2 <;> (simp only [decide_eq_true_eq] at h2; omega)
    · exact nodeAll_all b xs l (k + 1) h.2 x hx
theorem nodeOkV_all {b : Bool} {xs : List It} (h : nodeOkV b xs = true) : ∀ x ∈ xs, okB x.x0 x.y0 x.x1 x.y1 = true ∧ 0 ≤ x.id ∧ x.id ≤ 65535 := by
  unfold nodeOkV at h
  rw [Bool.and_eq_true] at h
  exact nodeAll_all b xs xs 0 h.1
theorem putE_yes {x : It} (h : okB x.x0 x.y0 x.x1 x.y1 = true ∧ 0 ≤ x.id ∧ x.id ≤ 65535) : putE x = [x.id / 256, x.id % 256, x.x0, x.y0, x.x1, x.y1] := if_pos ⟨h.2, h.1⟩

section
variable {b : Bool} {xs : List It}
theorem putN_form (h : nodeOkV b xs = true) : ∃ z, putN b xs = headN b xs.length :: (xs.flatMap putE ++ List.replicate z 0) ∧ (putN b xs).length = 25 := by
  have h4 := nodeOkV_len h
  have hl := flat6_len putE xs (fun x hx => by rw [putE_yes (nodeOkV_all h x hx)]; rfl)
  have hb : (bodyN b xs).length = 1 + 6 * xs.length := by unfold bodyN; rw [List.length_cons, hl]; omega
  unfold putN
  rw [if_pos h]
  unfold pad
  split
  · refine ⟨(25 - ((bodyN b xs).length : Int)).toNat, ?_, ?_⟩
    · unfold bodyN
      simp
    · rw [List.length_append, List.length_replicate, hb]; omega
  · refine ⟨0, ?_, ?_⟩
    · unfold bodyN; simp
    · rw [hb]; omega
theorem putN_at (h : nodeOkV b xs = true) {k : Nat} {x : It} (hx : xs[k]? = some x) (j : Nat) (hj : j < 6) : (putN b xs).getD (1 + 6 * k + j) 0 = (putE x).getD j 0 := by
  obtain ⟨z, e, _⟩ := putN_form h
  have hl := flat6_len putE xs (fun x hx => by rw [putE_yes (nodeOkV_all h x hx)]; rfl)
  have hk : k < xs.length := (List.getElem?_eq_some_iff.1 hx).1
  rw [e, List.getD_eq_getElem?_getD, List.getD_eq_getElem?_getD, show 1 + 6 * k + j = (6 * k + j) + 1 by omega, List.getElem?_cons_succ, List.getElem?_append_left (by rw [hl]; omega)]
  rw [flat6 putE xs (fun x hx => by rw [putE_yes (nodeOkV_all h x hx)]; rfl) k x hx j hj]
theorem rawE_putN (h : nodeOkV b xs = true) {k : Nat} {x : It} (hx : xs[k]? = some x) : rawE (putN b xs) (1 + 6 * k) = x := by
  have hv := nodeOkV_all h x (List.mem_of_getElem? hx)
  have g0 := putN_at h hx 0 (by omega)
  have g1 := putN_at h hx 1 (by omega)
  have g2 := putN_at h hx 2 (by omega)
  have g3 := putN_at h hx 3 (by omega)
  have g4 := putN_at h hx 4 (by omega)
  have g5 := putN_at h hx 5 (by omega)
  rw [putE_yes hv] at g0 g1 g2 g3 g4 g5
  unfold rawE
  rw [← Nat.add_zero (1 + 6 * k), g0, Nat.add_zero, g1, g2, g3, g4, g5]
  obtain ⟨i, x0, y0, x1, y1⟩ := x
  show It.mk _ _ _ _ _ = _
  simp only [It.mk.injEq]
  refine ⟨?_, rfl, rfl, rfl, rfl⟩
  show 256 * (i / 256) + i % 256 = i
  omega
theorem hasE_putN (h : nodeOkV b xs = true) {k : Nat} {x : It} (hx : xs[k]? = some x) : hasE (putN b xs) (1 + 6 * (k : Int)) = true := by
  have hk : k < xs.length := (List.getElem?_eq_some_iff.1 hx).1
  have h4 := nodeOkV_len h
  obtain ⟨_, _, e⟩ := putN_form h
  unfold hasE
  rw [show (1 + 6 * (k : Int)).toNat = 1 + 6 * k by omega, rawE_putN h hx, (nodeOkV_all h x (List.mem_of_getElem? hx)).1, decide_eq_true (by rw [e]; omega)]
  rfl
theorem all_putN (h : nodeOkV b xs = true) : ∀ k, k ≤ xs.length → hasAll (putN b xs) k = true ∧ rawAll (putN b xs) k = xs.take k
  | 0, _ => ⟨rfl, by simp [rawAll]⟩
  | k + 1, hk => by
    obtain ⟨h1, h2⟩ := all_putN h k (by omega)
    have hx : xs[k]? = some (xs[k]'(by omega)) := List.getElem?_eq_getElem _
    refine ⟨by rw [hasAll, h1, hasE_putN h hx]; rfl, ?_⟩
    rw [rawAll, h2, rawE_putN h hx, List.take_add_one, hx]
    rfl
theorem head_putN (h : nodeOkV b xs = true) : (putN b xs).getD 0 0 = headN b xs.length := by
  obtain ⟨z, e, _⟩ := putN_form h
  rw [e]
  rfl
theorem cntN_putN (h : nodeOkV b xs = true) : cntN (putN b xs) = xs.length := by
  have h4 := nodeOkV_len h
  unfold cntN
  rw [head_putN h]
  unfold headN
  split <;> omega
theorem leafN_putN (h : nodeOkV b xs = true) : leafN (putN b xs) = b := by
  have h4 := nodeOkV_len h
  unfold leafN
  rw [head_putN h]
  unfold headN
  cases b with
  | true => rw [if_pos rfl]; exact decide_eq_true (by omega)
  | false => rw [if_neg (by simp)]; exact decide_eq_false (by omega)
theorem listN_putN (h : nodeOkV b xs = true) : listN (putN b xs) = xs := by
  have h4 := nodeOkV_len h
  unfold listN
  rw [cntN_putN h, if_pos h4, (all_putN h xs.length (Nat.le_refl _)).2, List.take_length]
theorem okN_putN (b : Bool) (xs : List It) : okN (putN b xs) = nodeOkV b xs := by
  cases h : nodeOkV b xs with
  | true =>
    obtain ⟨_, _, e⟩ := putN_form h
    rw [okN_end e (fun _ => by rw [cntN_putN h]; exact (all_putN h _ (Nat.le_refl _)).1), leafN_putN h, listN_putN h]
    exact decide_eq_true rfl
  | false =>
    have : putN b xs = [] := if_neg (by rw [h]; exact Bool.false_ne_true)
    rw [this]
    exact okN_len (by decide)
end
theorem okN_put {bs : List Int} (h : okN bs = true) : putN (leafN bs) (listN bs) = bs := by
  unfold okN at h
  simp only [Bool.and_eq_true, decide_eq_true_eq] at h
  exact h.2.2
/-- What GetNode answers is a node's bytes, and no other are. -/
theorem okN_iff (b : Bool) (xs : List It) (bs : List Int) : (okN bs = true ∧ leafN bs = b ∧ listN bs = xs) ↔ (nodeOkV b xs = true ∧ putN b xs = bs) := by
  constructor
  · rintro ⟨h, rfl, rfl⟩
    have e := okN_put h
    refine ⟨?_, e⟩
    rw [← okN_putN, e]
    exact h
  · rintro ⟨h, rfl⟩
    exact ⟨by rw [okN_putN]; exact h, leafN_putN h, listN_putN h⟩
end Go.Proofs.Ytfgmjegemlkkkaa

/- Whether two slices hold the same items. -/
namespace Go.Proofs.Ytfgmjegemlkkkaa
open Go.RowKit

theorem neItem_run (a b : It) (w : World) :
    (binOp .neq 100 (.agg #[.int .i64 a.id, .int .i64 a.x0, .int .i64 a.y0, .int .i64 a.x1, .int .i64 a.y1]) (.agg #[.int .i64 b.id, .int .i64 b.x0, .int .i64 b.y0, .int .i64 b.x1, .int .i64 b.y1])).run Try.prog w = .ok (.bool (!itEq a b)) w := by
  obtain ⟨i, x0, y0, x1, y1⟩ := a
  obtain ⟨j, u0, v0, u1, v1⟩ := b
  unfold itEq boxEq
  by_cases h : i = j
  · by_cases h0 : x0 = u0
    · by_cases h1 : y0 = v0
      · by_cases h2 : x1 = u1
        · by_cases h3 : y1 = v1
          all_goals go_simp
        · go_simp
      · go_simp
    · go_simp
  · go_simp

def sameV (xs ys : List It) : Bool := xs.length == ys.length && (xs.zip ys).all fun p => itEq p.1 p.2
theorem sameV_len {xs ys : List It} (h : xs.length ≠ ys.length) : sameV xs ys = false := by unfold sameV; simp [h]
theorem sameV_iff (xs ys : List It) : sameV xs ys = true ↔ xs = ys := by
  unfold sameV
  induction xs generalizing ys with
  | nil => cases ys <;> simp
  | cons x l ih =>
    cases ys with
    | nil => simp
    | cons y m =>
      have := ih m
      simp only [List.length_cons, List.zip_cons_cons, List.all_cons, Bool.and_eq_true, beq_iff_eq, Nat.add_right_cancel_iff, List.cons.injEq, itEq_iff] at this ⊢
      rw [← this]
      constructor
      · rintro ⟨a, b, c⟩; exact ⟨b, a, c⟩
      · rintro ⟨b, a, c⟩; exact ⟨a, b, c⟩
theorem sameV_no {xs ys : List It} {k : Nat} {x y : It} (hx : xs[k]? = some x) (hy : ys[k]? = some y) (h : itEq x y = false) : sameV xs ys = false := by
  rw [Bool.eq_false_iff]
  intro h'
  have := (sameV_iff xs ys).1 h'
  subst this
  rw [hx] at hy
  obtain rfl : x = y := by simpa using hy
  rw [itEq_self] at h
  cases h
theorem sameV_end {xs ys : List It} (hl : xs.length = ys.length) (h : ∀ (k : Nat) (x y : It), k < xs.length → xs[k]? = some x → ys[k]? = some y → itEq x y = true) : sameV xs ys = true := by
  rw [sameV_iff]
  apply List.ext_getElem? 
  intro k
  by_cases hk : k < xs.length
  · have h1 : xs[k]? = some xs[k] := List.getElem?_eq_getElem hk
    have h2 : ys[k]? = some (ys[k]'(by omega)) := List.getElem?_eq_getElem _
    have := (itEq_iff _ _).1 (h k _ _ hk h1 h2)
    rw [h1, h2, this]
  · rw [List.getElem?_eq_none (by omega), List.getElem?_eq_none (by omega)]

end Go.Proofs.Ytfgmjegemlkkkaa

/- Whether two nodes are the same. -/
namespace Go.Proofs.Ytfgmjegemlkkkaa
open Go.RowKit

theorem neEntry_run (a b : It) (w : World) :
    (binOp .neq 35 (.agg #[.int .i64 a.id, .int .i64 a.x0, .int .i64 a.y0, .int .i64 a.x1, .int .i64 a.y1]) (.agg #[.int .i64 b.id, .int .i64 b.x0, .int .i64 b.y0, .int .i64 b.x1, .int .i64 b.y1])).run Try.prog w = .ok (.bool (!itEq a b)) w := by
  obtain ⟨i, x0, y0, x1, y1⟩ := a
  obtain ⟨j, u0, v0, u1, v1⟩ := b
  unfold itEq boxEq
  by_cases h : i = j
  · by_cases h0 : x0 = u0
    · by_cases h1 : y0 = v0
      · by_cases h2 : x1 = u1
        · by_cases h3 : y1 = v1
          all_goals go_simp
        · go_simp
      · go_simp
    · go_simp
  · go_simp


end Go.Proofs.Ytfgmjegemlkkkaa

/- The join of all rectangles of a slice: the program's and the model's functions. -/
namespace Go.Proofs.Ytfgmjegemlkkkaa
open Go.RowKit

def joinB (a b : Bx) : Bx := ⟨lst a.x0 b.x0, lst a.y0 b.y0, mst a.x1 b.x1, mst a.y1 b.y1⟩
def joinAll : List Bx → Bx
  | [] => ⟨0, 0, 0, 0⟩
  | b :: l => l.foldl joinB b
theorem joinAll_snoc (l : List Bx) (x : Bx) (h : l ≠ []) : joinAll (l ++ [x]) = joinB (joinAll l) x := by
  cases l with
  | nil => exact absurd rfl h
  | cons b l => simp [joinAll, List.foldl_append]
theorem joinAll_take (xs : List Bx) (k : Nat) (x : Bx) (hk : 1 ≤ k) (hx : xs[k]? = some x) : joinAll (xs.take (k + 1)) = joinB (joinAll (xs.take k)) x := by
  obtain ⟨hlt, rfl⟩ := List.getElem?_eq_some_iff.1 hx
  rw [List.take_succ_eq_append_getElem hlt]
  exact joinAll_snoc _ _ (by intro h; have := congrArg List.length h; simp only [List.length_take, List.length_nil] at this; omega)
theorem joinAll_one (xs : List Bx) (x : Bx) (hx : xs[0]? = some x) : joinAll (xs.take 1) = x := by
  cases xs with
  | nil => simp at hx
  | cons b l => simp at hx; subst hx; rfl

/-- A rectangle is handed back. -/
def RetBox (b : Bx) (w : World) (e : Ending) (w' : World) : Prop := e = .returned (.agg #[.int .i64 b.x0, .int .i64 b.y0, .int .i64 b.x1, .int .i64 b.y1]) ∧ Below w.heap.size w w'

/-- In the middle of the loop: the result's block is untouched; the variable's block holds b. -/
def Mid (w wr : World) (b : Bx) : Prop :=
  (Below w.heap.size w wr ∧ w.heap.size + 2 ≤ wr.heap.size) ∧
  ((∀ o, wr.cell? ⟨w.heap.size, o, none⟩ = #[Value.int .i64 0, .int .i64 0, .int .i64 0, .int .i64 0][o]?) ∧ (∀ o, wr.frozen? ⟨w.heap.size, o, none⟩ = false)) ∧
  ((∀ o, wr.cell? ⟨w.heap.size + 1, o, none⟩ = #[Value.int .i64 b.x0, .int .i64 b.y0, .int .i64 b.x1, .int .i64 b.y1][o]?) ∧ (∀ o, wr.frozen? ⟨w.heap.size + 1, o, none⟩ = false))
theorem mid_start (w : World) (b : Bx) (t : TypeId) : Mid w ((w.alloc (.cells #[.int .i64 0, .int .i64 0, .int .i64 0, .int .i64 0] t)).alloc (.cells #[.int .i64 b.x0, .int .i64 b.y0, .int .i64 b.x1, .int .i64 b.y1] t)) b :=
  ⟨⟨((new_below w _).trans ((new_below _ _).mono (show w.heap.size ≤ _ by simp))), by simp⟩, blk_alloc _ (by simp) _ _ (blk_new w _ t), blk_new1 w _ _ t⟩
/-- A block of four cells is written whole. -/
theorem blk_write {W : World} {b : Nat} {x y z u : Value} {x' y' z' u' : Value} (hk : (∀ o, W.cell? ⟨b, o, none⟩ = #[x, y, z, u][o]?) ∧ (∀ o, W.frozen? ⟨b, o, none⟩ = false)) :
    (∀ o, ((((W.setCell ⟨b, 0, none⟩ x').setCell ⟨b, 1, none⟩ y').setCell ⟨b, 2, none⟩ z').setCell ⟨b, 3, none⟩ u').cell? ⟨b, o, none⟩ = #[x', y', z', u'][o]?) ∧
    (∀ o, ((((W.setCell ⟨b, 0, none⟩ x').setCell ⟨b, 1, none⟩ y').setCell ⟨b, 2, none⟩ z').setCell ⟨b, 3, none⟩ u').frozen? ⟨b, o, none⟩ = false) := by
  refine ⟨fun o => ?_, fun o => ?_⟩
  · have h0 := hk.1 0; have h1 := hk.1 1; have h2 := hk.1 2; have h3 := hk.1 3; have ho := hk.1 o
    match o, ho with
    | 0, _ => simp [go_sem, h0]
    | 1, _ => simp [go_sem, h1]
    | 2, _ => simp [go_sem, h2]
    | 3, _ => simp [go_sem, h3]
    | o + 4, ho =>
      rw [World.cell?_setCell_other _ _ _ _ (by simp), World.cell?_setCell_other _ _ _ _ (by simp), World.cell?_setCell_other _ _ _ _ (by simp), World.cell?_setCell_other _ _ _ _ (by simp), ho]
      simp
  · have := hk.2 o
    simp [go_sem, this]
theorem blk_far {W : World} {b p j : Nat} {u : Value} (h : b ≠ p) (f : Nat → Option Value) (m : Nat → Bool) (hk : (∀ o, W.cell? ⟨b, o, none⟩ = f o) ∧ (∀ o, W.frozen? ⟨b, o, none⟩ = m o)) :
    (∀ o, (W.setCell ⟨p, j, none⟩ u).cell? ⟨b, o, none⟩ = f o) ∧ (∀ o, (W.setCell ⟨p, j, none⟩ u).frozen? ⟨b, o, none⟩ = m o) :=
  ⟨fun o => (World.cell?_setCell_far _ _ _ _ (fun e => h e.symm)).trans (hk.1 o), fun o => by have := hk.2 o; simpa [go_sem] using this⟩
/-- A round: a callee that makes memory alone, then the variable is written. -/
theorem mid_step {w W wr : World} {b b' : Bx} (h : Mid w W b) (hj : Below W.heap.size W wr) :
    Mid w ((((wr.setCell ⟨w.heap.size + 1, 0, none⟩ (.int .i64 b'.x0)).setCell ⟨w.heap.size + 1, 1, none⟩ (.int .i64 b'.y0)).setCell ⟨w.heap.size + 1, 2, none⟩ (.int .i64 b'.x1)).setCell ⟨w.heap.size + 1, 3, none⟩ (.int .i64 b'.y1)) b' := by
  obtain ⟨⟨hB, hz⟩, h0, h1⟩ := h
  have hs := hj.size
  have k0 := below_keep hj (show w.heap.size < _ by omega) _ _ h0
  have k1 := below_keep hj (show w.heap.size + 1 < _ by omega) _ _ h1
  refine ⟨⟨((((hB.trans (hj.mono (by omega))).setCell (p := ⟨w.heap.size + 1, 0, none⟩) (Nat.le_succ _) _).setCell (p := ⟨w.heap.size + 1, 1, none⟩) (Nat.le_succ _) _).setCell (p := ⟨w.heap.size + 1, 2, none⟩) (Nat.le_succ _) _).setCell (p := ⟨w.heap.size + 1, 3, none⟩) (Nat.le_succ _) _, by simp; omega⟩, ?_, blk_write k1⟩
  exact blk_far (by omega) _ _ (blk_far (by omega) _ _ (blk_far (by omega) _ _ (blk_far (by omega) _ _ k0)))
theorem mid_alloc {w W : World} {b : Bx} (h : Mid w W b) (O : Obj) : Mid w (W.alloc O) b :=
  ⟨⟨h.1.1.trans ((new_below W O).mono h.1.1.size), by have := h.1.2; simp; omega⟩, blk_alloc O (by have := h.1.2; omega) _ _ h.2.1, blk_alloc O (by have := h.1.2; omega) _ _ h.2.2⟩
theorem mid_drew {w W : World} {b : Bx} (h : Mid w W b) : Mid w W.drew b := ⟨⟨h.1.1.drew, h.1.2⟩, h.2⟩

end Go.Proofs.Ytfgmjegemlkkkaa

/- The laws' own helpers on slices of rectangles: how many, a copy, equality. -/
namespace Go.Proofs.Ytfgmjegemlkkkaa
open Go.RowKit

theorem Try.infoBox : (Try.prog.info? 33).map (fun i => (i.zero, i.size, i.bytes)) = some (some (.agg #[.int .i64 0, .int .i64 0, .int .i64 0, .int .i64 0]), 4, 32) := by kernel_rfl

def zeroBx : Bx := ⟨0, 0, 0, 0⟩
/-- The first k of xs, then zeros, n in all. -/
def copiedB (xs : List Bx) (n k : Nat) : List Bx := gen n fun j => if j < k then xs.getD j zeroBx else zeroBx
theorem copiedB_set (xs : List Bx) (n k : Nat) (x : Bx) (hx : xs[k]? = some x) : copiedB xs n (k + 1) = (copiedB xs n k).set k x := by
  unfold copiedB
  rw [gen_set]
  refine gen_congr n _ _ fun j _ => ?_
  by_cases h : j = k
  · subst h; simp [List.getD, hx]
  · rw [if_neg h]
    by_cases h' : j < k
    · rw [if_pos h', if_pos (by omega)]
    · rw [if_neg h', if_neg (by omega)]
theorem copiedB_start (xs : List Bx) (n : Nat) : copiedB xs n 0 = List.replicate n zeroBx := by
  unfold copiedB gen
  simp [List.map_const']
theorem copiedB_end (xs : List Bx) (n : Nat) (h : xs.length = n) : copiedB xs n n = xs := by
  rw [← gen_list xs zeroBx n h]
  unfold copiedB
  refine gen_congr n _ _ fun j hj => ?_
  rw [if_pos hj, gen_list xs zeroBx n h]
theorem copiedB_len (xs : List Bx) (n k : Nat) : (copiedB xs n k).length = n := gen_length _ _

/-- One element is written: its four cells, one by one. -/
theorem flat_setB (xs : List Bx) (k : Nat) (x : Bx) (hk : k < xs.length) :
    ((((xs.flatMap bxLay.cells).set (k * 4) (.int .i64 x.x0)).set (k * 4 + 1) (.int .i64 x.y0)).set (k * 4 + 2) (.int .i64 x.x1)).set (k * 4 + 3) (.int .i64 x.y1) = (xs.set k x).flatMap bxLay.cells := by
  induction xs generalizing k with
  | nil => simp at hk
  | cons y l ih =>
    cases k with
    | zero => simp [bxLay, List.flatMap_cons]
    | succ k =>
      have := ih k (by simpa using hk)
      simp only [List.flatMap_cons, List.set_cons_succ]
      rw [← this]
      have e : ∀ (j : Nat) (u : Value) (t : List Value), (bxLay.cells y ++ t).set ((k + 1) * 4 + j) u = bxLay.cells y ++ t.set (k * 4 + j) u := by
        intro j u t
        rw [List.set_append_right _ _ (by show 4 ≤ _; omega)]
        show bxLay.cells y ++ t.set ((k + 1) * 4 + j - 4) u = _
        rw [show (k + 1) * 4 + j - 4 = k * 4 + j by omega]
      have e0 := e 0
      simp only [Nat.add_zero] at e0
      rw [e0, e 1, e 2, e 3]

theorem madeB (n : Nat) : (madeCells #[Value.int .i64 0, .int .i64 0, .int .i64 0, .int .i64 0] (n * 4)).toList = (List.replicate n zeroBx).flatMap bxLay.cells := by
  apply List.ext_getElem?
  intro j
  have hr := Nat.div_add_mod j 4
  have hlt := Nat.mod_lt j (show 0 < 4 by omega)
  have hf := flat_at bxLay (List.replicate n zeroBx) (j / 4) (j % 4) hlt
  rw [show j / 4 * bxLay.sz + j % 4 = j by show j / 4 * 4 + j % 4 = j; omega] at hf
  rw [hf]
  by_cases hj : j < n * 4
  · have h4 : j / 4 < n := by omega
    rw [List.getElem?_replicate, if_pos h4]
    simp only [Option.bind_some]
    rcases (by omega : j % 4 = 0 ∨ j % 4 = 1 ∨ j % 4 = 2 ∨ j % 4 = 3) with h | h | h | h <;> simp [madeCells, hj, h, bxLay, zeroBx]
  · have h4 : ¬ j / 4 < n := by omega
    rw [List.getElem?_replicate, if_neg h4]
    simp [madeCells, hj]

/-- An owned rectangle's four cells. -/
theorem ownBx_at {w : World} {base : Nat} {e : TypeId} {g n cap i : Nat} {xs : List Bx} (h : w.ownsRow base e bxLay.sz (.slice (some ⟨g, 0, none⟩) n cap) n (xs.flatMap bxLay.cells)) (hl : xs.length = n) (hi : i < n) :
    ∃ x : Bx, w.cell? ⟨g, i * 4, none⟩ = some (.int .i64 x.x0) ∧ w.cell? ⟨g, i * 4 + 1, none⟩ = some (.int .i64 x.y0) ∧ w.cell? ⟨g, i * 4 + 2, none⟩ = some (.int .i64 x.x1) ∧ w.cell? ⟨g, i * 4 + 3, none⟩ = some (.int .i64 x.y1) := by
  subst hl
  obtain ⟨a, c, hv, hr⟩ := OwnS.rd (L := bxLay) (e := e) (xs := xs) h
  obtain ⟨b, off, x, e1, _, _, d0, d1, d2, d3⟩ := rdBx_at hr hi
  simp only [Value.slice.injEq] at hv
  obtain ⟨rfl, -, rfl⟩ := hv
  obtain ⟨rfl, rfl⟩ : g = b ∧ 0 = off := by simpa using e1
  simp only [Nat.zero_add] at d0 d1 d2 d3
  exact ⟨x, d0, d1, d2, d3⟩

/-- A slice of rectangles in new memory. -/
def NewBoxes (xs : List Bx) (w : World) (e : Ending) (w' : World) : Prop := ∃ v, e = .returned v ∧ OwnS bxLay 33 w' w.heap.size v xs ∧ Below w.heap.size w w'

theorem boxEq_false {a b : Bx} (h : a ≠ b) : boxEq a.x0 a.y0 a.x1 a.y1 b.x0 b.y0 b.x1 b.y1 = false := by
  rw [Bool.eq_false_iff]
  intro h'
  obtain ⟨h0, h1, h2, h3⟩ := (boxEq_iff _ _ _ _ _ _ _ _).1 h'
  exact h (by cases a; cases b; simp_all)

end Go.Proofs.Ytfgmjegemlkkkaa

/- The model's BoundOf: the join of all rectangles of a node's entries. -/
namespace Go.Proofs.Ytfgmjegemlkkkaa
open Go.RowKit

def boxOf (x : It) : Bx := ⟨x.x0, x.y0, x.x1, x.y1⟩
theorem ownB_nil (w : World) (base g : Nat) (hg : w.heap.size = g) (hb : base ≤ g) : OwnS bxLay 33 (w.alloc (.cells #[] 33)) base (.slice (some ⟨g, 0, none⟩) 0 0) [] := own_nil w 33 4 base g hg hb
theorem ownB_more {w : World} {e : TypeId} {base : Nat} {v : Value} {bs : List Bx} {y : Bx} {k : Nat} (hx : bs[k]? = some y) (hl : (bs.take k).length = k) (h : w.ownsRow base e 4 v (k + 1) ((bs.take k).flatMap bxLay.cells ++ bxLay.cells y)) : OwnS bxLay e w base v (bs.take (k + 1)) := by
  show w.ownsRow base e 4 v _ _
  rw [List.take_add_one, hx, List.length_append, List.flatMap_append, hl]
  simpa using h
theorem boxes_at {xs : List It} {k : Nat} {x : It} (h : xs[k]? = some x) : (xs.map boxOf)[k]? = some (boxOf x) := by rw [List.getElem?_map, h]; rfl

end Go.Proofs.Ytfgmjegemlkkkaa

/- The model's ItemsOf: the entries of a leaf as items; of an inner node none. -/
namespace Go.Proofs.Ytfgmjegemlkkkaa
open Go.RowKit
attribute [local go_sem ↓] Go.wp_at_zero Go.wp_at_succ

end Go.Proofs.Ytfgmjegemlkkkaa

/- What the program's functions on nodes are to answer (to be proved of the landed code). -/
namespace Go.Proofs.Ytfgmjegemlkkkaa
open Go.RowKit

def CNodeOk (f : FuncId) : Prop := ∀ (b : Bool) (a : Option Addr) (n cap : Nat) (xs : List It) (w : World), RdS itLay w a n cap xs →
  Calls Try.prog f #[.agg #[.bool b, .slice a n cap]] w fun e w' => e = .returned (.bool (nodeOkV b xs)) ∧ Below w.heap.size w w'
def CSameNode (f : FuncId) : Prop := ∀ (c d : Bool) (a a' : Option Addr) (n n' cap cap' : Nat) (xs ys : List It) (w : World), RdS itLay w a n cap xs → RdS itLay w a' n' cap' ys →
  Calls Try.prog f #[.agg #[.bool c, .slice a n cap], .agg #[.bool d, .slice a' n' cap']] w fun e w' => e = .returned (.bool ((c == d) && sameV xs ys)) ∧ Below w.heap.size w w'
def CBoundOf (f : FuncId) : Prop := ∀ (c : Bool) (a : Option Addr) (n cap : Nat) (xs : List It) (w : World), RdS itLay w a n cap xs → n ≤ 1099511627776 →
  Calls Try.prog f #[.agg #[.bool c, .slice a n cap]] w (RetBox (joinAll (xs.map boxOf)) w)
def CEntryAt (f : FuncId) : Prop := ∀ (a : Option Addr) (n cap : Nat) (xs : List It) (id : Int) (w : World), RdS itLay w a n cap xs →
  Calls Try.prog f #[.slice a n cap, .int .i64 id] w fun e w' => e = .returned (.int .i64 (atV id xs 0)) ∧ Below w.heap.size w w'
def CItemsOf (f : FuncId) : Prop := ∀ (b : Bool) (a : Option Addr) (n cap : Nat) (xs : List It) (w : World), RdS itLay w a n cap xs → n ≤ 1099511627776 →
  Calls Try.prog f #[.agg #[.bool b, .slice a n cap]] w (NewItems (if b then xs else []) w)
def CLeafOf (f : FuncId) : Prop := ∀ (a : Option Addr) (n cap : Nat) (xs : List It) (w : World), RdS itLay w a n cap xs → n ≤ 1099511627776 →
  Calls Try.prog f #[.slice a n cap] w (NewNode true xs w)
end Go.Proofs.Ytfgmjegemlkkkaa

/- The model's draws of rectangles: four integers that fit, whatever they are. -/
namespace Go.Proofs.Ytfgmjegemlkkkaa
open Go.RowKit

def I64 (x : Int) : Prop := -9223372036854775808 ≤ x ∧ x ≤ 9223372036854775807
theorem i64_wf {x : Int} (h : (Lit.int .i64 x).wf = true) : I64 x := bounds_i64 h
theorem wf_i64 {x : Int} (h : I64 x) : (Lit.int .i64 x).wf = true := by
  obtain ⟨a, b⟩ := h
  simp [Lit.wf, IntKind.min, IntKind.max, IntKind.signed, IntKind.bits]; omega

/-- What the draw of a rectangle leaves. -/
def DrawnBox (R : Int → Int → Int → Int → Prop) (g : Nat) (zs : List Int) (w : World) (e : Ending) (w' : World) : Prop :=
  ∃ x0 y0 x1 y1, e = .returned (.agg #[.int .i64 x0, .int .i64 y0, .int .i64 x1, .int .i64 y1]) ∧ R x0 y0 x1 y1 ∧ Cur g zs w' ∧ w.grownBy w' (some g)
def Small4 (x0 y0 x1 y1 : Int) : Prop := (0 ≤ x0 ∧ x0 ≤ 249) ∧ (0 ≤ y0 ∧ y0 ≤ 249) ∧ (x0 ≤ x1 ∧ x1 ≤ 255) ∧ (y0 ≤ y1 ∧ y1 ≤ 255)
def Any4 (x0 y0 x1 y1 : Int) : Prop := I64 x0 ∧ I64 y0 ∧ I64 x1 ∧ I64 y1

/-- A draw out of a list that was laid for it. -/
theorem drawnOf_lit {g : Nat} {zs l : List Int} {w : World} {o : Obj} {e : Ending} {w' : World} (h : DrawnOf g zs l (w.alloc o) e w') :
    ∃ x : Int, e = .returned (.int .i64 x) ∧ x ∈ l ∧ Cur g zs w' ∧ w.grownBy w' (some g) := by
  obtain ⟨x, he, hx, hc, hw⟩ := h
  refine ⟨x, he, hx, hc, ⟨hw.os, hw.tape, hw.output, by have := hw.size; simp at this; omega, fun i hi hne => ?_⟩⟩
  rw [hw.block i (by simp; omega) hne]
  exact heap_alloc_old w o hi

theorem lst_bd (a b : Int) : lst a b ≤ a ∧ lst a b ≤ b ∧ (lst a b = a ∨ lst a b = b) := by unfold lst; split <;> omega

theorem xs_mem {x : Int} (h : x ∈ [0, 1, 5, 9, 40]) : 0 ≤ x ∧ x ≤ 40 := by simp at h; omega
theorem ys_mem {x : Int} (h : x ∈ [0, 1, 3, 12]) : 0 ≤ x ∧ x ≤ 12 := by simp at h; omega

theorem add_in (a b : Int) (h : -1000000 ≤ a ∧ a ≤ 1000000) (h' : -1000000 ≤ b ∧ b ≤ 1000000) : IntKind.i64.wrap (a + b) = a + b := IntWalk.i64_in _ (by omega)

theorem grown_set (W : World) (b j : Nat) (u : Value) : W.grownBy (W.setCell ⟨b, j, none⟩ u) (some b) := grown_setCell (World.grownBy.refl _ _) b j u rfl

set_option maxRecDepth 100000 in
set_option maxHeartbeats 800000 in
theorem l2Draw_any (g : Nat) (zs : List Int) (w : World) (h : Cur g zs w) :
    Calls Try.prog 47 #[.pointer (some ⟨g, 0, none⟩)] w (DrawnBox Small4 g zs w) := by
  have hlt := cur_lt h
  have hne : w.heap.size ≠ g := by omega
  go_enter Try.func47, Try.ntmps47
  go_wp2_with fail
  refine (l1Below_any g zs 250 _ (cur_alloc h _) (by omega)).mono ?_
  rintro e w1 ⟨x, rfl, x0, x1, c, G⟩
  simp at x1
  go_wp2_with fail
  refine (l1Below_any g zs 250 _ c (by omega)).mono ?_
  rintro e w2 ⟨y, rfl, y0, y1, c, g2⟩
  replace G := grown_trans G g2
  clear g2
  simp at y1
  go_wp2_with fail
  refine (l1Once_any g zs 2 _ c (by omega)).mono ?_
  rintro e w3 ⟨b, rfl, c, g2⟩
  replace G := grown_trans G g2
  clear g2
  cases b
  case' true =>
    go_wp2_with fail
    refine (l1Below_any g zs 20 _ c (by omega)).mono ?_
    rintro e w4 ⟨x, rfl, x0, x1, c, g2⟩
    replace G := grown_trans G g2
    clear g2
    simp at x1
    go_wp2_with fail
    refine (l1Below_any g zs 20 _ c (by omega)).mono ?_
    rintro e w3 ⟨y, rfl, y0, y1, c, g2⟩
    replace G := grown_trans G g2
    clear g2
    simp at y1
  all_goals
    have s := G.size
    simp at s
    go_wp2_with fail
    refine (l1Int_any g zs [0, 1, 5, 9, 40] (some ⟨w3.heap.size, 0, none⟩) 5 5 _ (cur_alloc c _) (rdI_new w3 .i64 [0, 1, 5, 9, 40] _ _ 5 rfl rfl (by simp [maxLen])) (by omega) (by omega) (fun x hx => by cases hx; simp; omega)).mono ?_
    intro e w5 hd
    obtain ⟨u, rfl, hu, c, g2⟩ := drawnOf_lit hd
    clear hd
    obtain ⟨u0, u1⟩ := xs_mem hu
    clear hu
    replace G := grown_trans G g2
    clear g2
    have s := G.size
    simp at s
    go_wp2_with fail
    refine (sLeast_any _ _ _).mono ?_
    rintro e w6 ⟨rfl, rfl⟩
    go_wp2_with fail
    refine (l1Int_any g zs [0, 1, 3, 12] (some ⟨w5.heap.size, 0, none⟩) 4 4 _ (cur_alloc c _) (rdI_new w5 .i64 [0, 1, 3, 12] _ _ 4 rfl rfl (by simp [maxLen])) (by omega) (by omega) (fun x hx => by cases hx; simp; omega)).mono ?_
    intro e w7 hd
    obtain ⟨v, rfl, hv, c, g2⟩ := drawnOf_lit hd
    clear hd
    obtain ⟨v0, v1⟩ := ys_mem hv
    clear hv
    replace G := grown_trans G g2
    clear g2
    go_wp2_with fail
    refine (sLeast_any _ _ _).mono ?_
    rintro e w8 ⟨rfl, rfl⟩
    have k := grown_cell G (b := w.heap.size) (by simp) hne
    have f := grown_frozen G (b := w.heap.size) (by simp) hne
    go_wp2
    have K := grown_trans (grown_trans (grown_trans (grown_set w7 w.heap.size 0 (.int .i64 x)) (grown_set _ w.heap.size 1 (.int .i64 y))) (grown_set _ w.heap.size 2 (.int .i64 (lst 255 (x + u))))) (grown_set _ w.heap.size 3 (.int .i64 (lst 255 (y + v))))
    refine bodyPost_ret (v := .agg #[.int .i64 x, .int .i64 y, .int .i64 (lst 255 (x + u)), .int .i64 (lst 255 (y + v))]) (by simp [results, Try.results47, go_sem, k]) rfl ⟨_, _, _, _, rfl, ?_, ?_, ?_⟩
    · have := lst_bd 255 (x + u)
      have := lst_bd 255 (y + v)
      exact ⟨⟨by omega, by omega⟩, ⟨by omega, by omega⟩, ⟨by omega, by omega⟩, by omega, by omega⟩
    · exact cur_kept c K (fun j hj => by cases hj; exact hlt)
    · exact grown_own (grown_trans (World.grownBy_alloc w _ (some g)) G) (World.grownBy.refl _ none) K (fun j hj => by cases hj; exact Nat.le_refl _)

theorem cur_set {g : Nat} {zs : List Int} {W : World} (h : Cur g zs W) {b : Nat} (hb : g < b) (j : Nat) (u : Value) : Cur g zs (W.setCell ⟨b, j, none⟩ u) := cur_kept h (grown_set W b j u) (fun k hk => by cases hk; exact hb)
theorem grown_new {w W : World} {row : Option Nat} (h : w.grownBy W row) {b : Nat} (hb : w.heap.size ≤ b) (j : Nat) (u : Value) : w.grownBy (W.setCell ⟨b, j, none⟩ u) row :=
  grown_own h (World.grownBy.refl _ none) (grown_set W b j u) (fun k hk => by cases hk; exact hb)
theorem grown_alloc {w W : World} {row : Option Nat} (h : w.grownBy W row) (o : Obj) : w.grownBy (W.alloc o) row := grown_trans h (World.grownBy_alloc W o row)

set_option maxRecDepth 100000 in
set_option maxHeartbeats 1600000 in
theorem l2Any_any (g : Nat) (zs : List Int) (w : World) (h : Cur g zs w) :
    Calls Try.prog 44 #[.pointer (some ⟨g, 0, none⟩)] w (DrawnBox Any4 g zs w) := by
  have hlt := cur_lt h
  have hne : w.heap.size ≠ g := by omega
  have hne' : w.heap.size + 1 ≠ g := by omega
  go_enter Try.func44, Try.ntmps44
  go_wp2_with fail
  refine (l2Draw_any g zs _ (cur_alloc h _)).mono ?_
  rintro e w1 ⟨a, b, c, d, rfl, ⟨⟨a0, a1⟩, ⟨b0, b1⟩, ⟨c0, c1⟩, d0, d1⟩, cu, G⟩
  have g0 := G
  go_wp2_with fail
  replace G := grown_alloc (grown_trans (World.grownBy_alloc w _ (some g)) G) (.cells #[.int .i64 a, .int .i64 b, .int .i64 c, .int .i64 d] 33)
  have S := G.size
  have hq : w.heap.size ≤ w1.heap.size := by have := g0.size; simp at this; omega
  have hqg : g < w1.heap.size := by omega
  have hq1 : w1.heap.size ≠ g := by omega
  have hq0 : w.heap.size ≠ w1.heap.size := by have := g0.size; simp at this; omega
  have p0 := grown_cell g0 (b := w.heap.size) (by simp) hne
  have q0 := grown_frozen g0 (b := w.heap.size) (by simp) hne
  clear g0
  refine (l1Below_any g zs 12 _ (cur_alloc cu _) (by omega)).mono ?_
  rintro e w2 ⟨x, rfl, x0, x1, cu, g2⟩
  simp at x1
  have k1 := grown_cell g2 (b := w1.heap.size) (by simp) hq1
  have f1 := grown_frozen g2 (b := w1.heap.size) (by simp) hq1
  have k0 : ∀ o, w2.cell? ⟨w.heap.size, o, none⟩ = _ := fun o => (grown_cell g2 (b := w.heap.size) (by simp; omega) hne o).trans ((World.cell?_alloc_lt w1 _ ⟨w.heap.size, o, none⟩ (by show w.heap.size < w1.heap.size; omega)).trans (p0 o))
  have f0 : ∀ o, w2.frozen? ⟨w.heap.size, o, none⟩ = _ := fun o => (grown_frozen g2 (b := w.heap.size) (by simp; omega) hne o).trans ((World.frozen?_alloc_old w1 _ ⟨w.heap.size, o, none⟩ (by show w.heap.size ≠ w1.heap.size; omega)).trans (q0 o))
  clear p0 q0
  have s2 := g2.size
  simp at s2
  replace G := grown_trans G g2
  clear g2
  rcases (by omega : x = 0 ∨ x = 1 ∨ x = 2 ∨ x = 3 ∨ 4 ≤ x) with rfl | rfl | rfl | rfl | hx
  · go_wp2_with fail
    refine (l1Raw_any g zs _ cu).mono ?_
    rintro e w3 ⟨y, rfl, hy, cu, g3⟩
    replace hy := Lib.hid (i64_wf hy)
    have k1' := grown_cell g3 (b := w1.heap.size) (by omega) hq1
    have f1' := grown_frozen g3 (b := w1.heap.size) (by omega) hq1
    have k0' := grown_cell g3 (b := w.heap.size) (by omega) hne
    have f0' := grown_frozen g3 (b := w.heap.size) (by omega) hne
    replace G := grown_trans G g3
    clear g3
    go_wp2
    refine bodyPost_ret (v := .agg #[.int .i64 y, .int .i64 b, .int .i64 c, .int .i64 d]) (by simp [results, Try.results44, go_sem, k0', k0]) rfl ⟨_, _, _, _, rfl, ?_, ?_, ?_⟩
    · exact ⟨hy.out, ⟨by omega, by omega⟩, ⟨by omega, by omega⟩, by omega, by omega⟩
    · exact cur_set (cur_set (cur_set (cur_set (cur_set (cu) hqg 0 _) hlt 0 _) hlt 1 _) hlt 2 _) hlt 3 _
    · exact grown_new (grown_new (grown_new (grown_new (grown_new (G) hq 0 _) (Nat.le_refl _) 0 _) (Nat.le_refl _) 1 _) (Nat.le_refl _) 2 _) (Nat.le_refl _) 3 _
  · go_wp2_with fail
    refine (l1Raw_any g zs _ cu).mono ?_
    rintro e w3 ⟨y, rfl, hy, cu, g3⟩
    replace hy := Lib.hid (i64_wf hy)
    have k1' := grown_cell g3 (b := w1.heap.size) (by omega) hq1
    have f1' := grown_frozen g3 (b := w1.heap.size) (by omega) hq1
    have k0' := grown_cell g3 (b := w.heap.size) (by omega) hne
    have f0' := grown_frozen g3 (b := w.heap.size) (by omega) hne
    replace G := grown_trans G g3
    clear g3
    go_wp2
    refine bodyPost_ret (v := .agg #[.int .i64 a, .int .i64 b, .int .i64 c, .int .i64 y]) (by simp [results, Try.results44, go_sem, k0', k0]) rfl ⟨_, _, _, _, rfl, ?_, ?_, ?_⟩
    · exact ⟨⟨by omega, by omega⟩, ⟨by omega, by omega⟩, ⟨by omega, by omega⟩, hy.out⟩
    · exact cur_set (cur_set (cur_set (cur_set (cur_set (cu) hqg 3 _) hlt 0 _) hlt 1 _) hlt 2 _) hlt 3 _
    · exact grown_new (grown_new (grown_new (grown_new (grown_new (G) hq 3 _) (Nat.le_refl _) 0 _) (Nat.le_refl _) 1 _) (Nat.le_refl _) 2 _) (Nat.le_refl _) 3 _
  · go_wp2
    refine bodyPost_ret (v := .agg #[.int .i64 a, .int .i64 b, .int .i64 (a - 1), .int .i64 d]) (by simp [results, Try.results44, go_sem, k0]) rfl ⟨_, _, _, _, rfl, ?_, ?_, ?_⟩
    · exact ⟨⟨by omega, by omega⟩, ⟨by omega, by omega⟩, ⟨by omega, by omega⟩, by omega, by omega⟩
    · exact cur_set (cur_set (cur_set (cur_set (cur_set (cu) hqg 2 _) hlt 0 _) hlt 1 _) hlt 2 _) hlt 3 _
    · exact grown_new (grown_new (grown_new (grown_new (grown_new (G) hq 2 _) (Nat.le_refl _) 0 _) (Nat.le_refl _) 1 _) (Nat.le_refl _) 2 _) (Nat.le_refl _) 3 _
  · go_wp2
    refine bodyPost_ret (v := .agg #[.int .i64 a, .int .i64 0, .int .i64 c, .int .i64 255]) (by simp [results, Try.results44, go_sem, k0]) rfl ⟨_, _, _, _, rfl, ?_, ?_, ?_⟩
    · exact ⟨⟨by omega, by omega⟩, ⟨by omega, by omega⟩, ⟨by omega, by omega⟩, by omega, by omega⟩
    · exact cur_set (cur_set (cur_set (cur_set (cur_set (cur_set (cu) hqg 1 _) hqg 3 _) hlt 0 _) hlt 1 _) hlt 2 _) hlt 3 _
    · exact grown_new (grown_new (grown_new (grown_new (grown_new (grown_new (G) hq 1 _) hq 3 _) (Nat.le_refl _) 0 _) (Nat.le_refl _) 1 _) (Nat.le_refl _) 2 _) (Nat.le_refl _) 3 _
  · have h0 : (x == 0) = false := by rw [beq_eq_false_iff_ne]; omega
    have h1 : (x == 1) = false := by rw [beq_eq_false_iff_ne]; omega
    have h2 : (x == 2) = false := by rw [beq_eq_false_iff_ne]; omega
    have h3 : (x == 3) = false := by rw [beq_eq_false_iff_ne]; omega
    go_wp2
    refine bodyPost_ret (v := .agg #[.int .i64 a, .int .i64 b, .int .i64 c, .int .i64 d]) (by simp [results, Try.results44, go_sem, k0]) rfl ⟨_, _, _, _, rfl, ?_, ?_, ?_⟩
    · exact ⟨⟨by omega, by omega⟩, ⟨by omega, by omega⟩, ⟨by omega, by omega⟩, by omega, by omega⟩
    · exact cur_set (cur_set (cur_set (cur_set (cu) hlt 0 _) hlt 1 _) hlt 2 _) hlt 3 _
    · exact grown_new (grown_new (grown_new (grown_new (G) (Nat.le_refl _) 0 _) (Nat.le_refl _) 1 _) (Nat.le_refl _) 2 _) (Nat.le_refl _) 3 _
end Go.Proofs.Ytfgmjegemlkkkaa

/- The model's draws of two rectangles. -/
namespace Go.Proofs.Ytfgmjegemlkkkaa
open Go.RowKit

/-- Two rectangles, drawn. -/
def DrawnTwo (g : Nat) (zs : List Int) (w : World) (e : Ending) (w' : World) : Prop :=
  ∃ a b c d p q r s, e = .returned (.tuple #[.agg #[.int .i64 a, .int .i64 b, .int .i64 c, .int .i64 d], .agg #[.int .i64 p, .int .i64 q, .int .i64 r, .int .i64 s]]) ∧ Any4 a b c d ∧ Any4 p q r s ∧ Cur g zs w' ∧ w.grownBy w' (some g)

theorem cur_drew {g : Nat} {zs : List Int} {W : World} (h : Cur g zs W) : Cur g zs W.drew := cur_kept (row := none) h ⟨rfl, rfl, rfl, Nat.le_refl _, fun _ _ _ => rfl⟩ (fun _ hk => by cases hk)
theorem grown_drew {w W : World} {row : Option Nat} (h : w.grownBy W row) : w.grownBy W.drew row := ⟨h.os, h.tape, h.output, h.size, h.block⟩

theorem i64_mst {a b : Int} (h : I64 a) (h' : I64 b) : I64 (mst a b) := by unfold mst; split <;> assumption

end Go.Proofs.Ytfgmjegemlkkkaa

/- What the laws of rectangles draw: one or two rectangles, out of the bytes that came in. -/
namespace Go.Proofs.Ytfgmjegemlkkkaa
open Go.RowKit

def DrawnPair (w : World) (e : Ending) (w' : World) : Prop :=
  ∃ a b c d p q r s, e = .returned (.tuple #[.agg #[.int .i64 a, .int .i64 b, .int .i64 c, .int .i64 d], .agg #[.int .i64 p, .int .i64 q, .int .i64 r, .int .i64 s]]) ∧ Any4 a b c d ∧ Any4 p q r s ∧ Below w.heap.size w w'
def DrawnOne (w : World) (e : Ending) (w' : World) : Prop :=
  ∃ a b c d, e = .returned (.agg #[.int .i64 a, .int .i64 b, .int .i64 c, .int .i64 d]) ∧ Any4 a b c d ∧ Below w.heap.size w w'
/-- Only blocks from B on may have turned: what the cursor's own block and new ones mean to the caller. -/
theorem below_blk {B : Nat} {w W W' : World} {g : Nat} (h : Below B w W) (hg : W.grownBy W' (some g)) (hB : B ≤ g) (hs : B ≤ W.heap.size) : Below B w W' := h.grown hg hs (fun k hk => by cases hk; exact hB)

end Go.Proofs.Ytfgmjegemlkkkaa

/- The model's draws of items and of lists of items. -/
namespace Go.Proofs.Ytfgmjegemlkkkaa
open Go.RowKit

/-- What the draw of an item leaves: whatever its numbers are. -/
def DrawnItem (g : Nat) (zs : List Int) (w : World) (e : Ending) (w' : World) : Prop :=
  ∃ x : It, e = .returned (.agg #[.int .i64 x.id, .int .i64 x.x0, .int .i64 x.y0, .int .i64 x.x1, .int .i64 x.y1]) ∧ Cur g zs w' ∧ w.grownBy w' (some g)

set_option maxRecDepth 100000 in
set_option maxHeartbeats 800000 in
theorem l4Draw_any (g : Nat) (zs : List Int) (w : World) (h : Cur g zs w) :
    Calls Try.prog 80 #[.pointer (some ⟨g, 0, none⟩)] w (DrawnItem g zs w) := by
  have hlt := cur_lt h
  have hne : w.heap.size ≠ g := by omega
  go_enter Try.func80, Try.ntmps80
  go_wp2_with fail
  refine (l1Below_any g zs 30 _ (cur_alloc h _) (by omega)).mono ?_
  rintro e w1 ⟨x, rfl, x0, x1, c, G⟩
  simp at x1
  have hs := G.size
  simp at hs
  go_wp2_with fail
  refine (l2Draw_any g zs _ c).mono ?_
  rintro e w2 ⟨p0, p1, p2, p3, rfl, -, c, g2⟩
  replace G := grown_trans G g2
  clear g2
  have k := grown_cell G (b := w.heap.size) (by simp) hne
  have f := grown_frozen G (b := w.heap.size) (by simp) hne
  go_wp2
  refine bodyPost_ret (v := .agg #[.int .i64 (1 + x), .int .i64 p0, .int .i64 p1, .int .i64 p2, .int .i64 p3]) (by simp [results, Try.results80, go_sem, k]) rfl ⟨⟨1 + x, p0, p1, p2, p3⟩, rfl, ?_, ?_⟩
  · exact cur_set (cur_set (cur_set (cur_set (cur_set (c) hlt 0 _) hlt 1 _) hlt 2 _) hlt 3 _) hlt 4 _
  · exact grown_new (grown_new (grown_new (grown_new (grown_new (grown_trans (World.grownBy_alloc w _ (some g)) G) (Nat.le_refl _) 0 _) (Nat.le_refl _) 1 _) (Nat.le_refl _) 2 _) (Nat.le_refl _) 3 _) (Nat.le_refl _) 4 _

end Go.Proofs.Ytfgmjegemlkkkaa

/- The model's draws of lists of items. -/
namespace Go.Proofs.Ytfgmjegemlkkkaa
open Go.RowKit

/-- What the draw of a list of items leaves: some items in new memory. -/
def DrawnItems (g : Nat) (zs : List Int) (m : Nat) (w : World) (e : Ending) (w' : World) : Prop :=
  ∃ v ys, e = .returned v ∧ ys.length ≤ m ∧ OwnS itLay 100 w' w.heap.size v ys ∧ Cur g zs w' ∧ w.grownBy w' (some g)

theorem ownS_far {w w' : World} {e : TypeId} {base g : Nat} {v : Value} {xs : List It} (h : OwnS itLay e w base v xs) (hg : w.grownBy w' (some g)) (hb : g < base) : OwnS itLay e w' base v xs := by
  refine OwnS.kept h hg ?_
  cases hv : v.ownBlock with
  | none => exact .inl rfl
  | some j => exact .inr fun e => by have := (h.lt j hv).1; simp at e; omega

theorem ownS_snoc {w : World} {e : TypeId} {base : Nat} {v : Value} {ys : List It} {y : It} (h : w.ownsRow base e 5 v (ys.length + 1) (ys.flatMap itLay.cells ++ itLay.cells y)) : OwnS itLay e w base v (ys ++ [y]) := by
  show w.ownsRow base e 5 v _ _
  rw [List.length_append, List.flatMap_append]
  simpa using h
theorem ownS_snoc2 {w : World} {e : TypeId} {base : Nat} {v : Value} {ys : List It} {y z : It} (h : w.ownsRow base e 5 v (ys.length + 2) (ys.flatMap itLay.cells ++ (itLay.cells y ++ itLay.cells z))) : OwnS itLay e w base v (ys ++ [y, z]) := by
  show w.ownsRow base e 5 v _ _
  rw [List.length_append, List.flatMap_append]
  simpa using h

set_option maxHeartbeats 1600000 in
set_option maxRecDepth 100000 in
theorem l4List_any (g : Nat) (zs : List Int) (m : Nat) (w : World) (h : Cur g zs w) (hm : m ≤ 1000) :
    Calls Try.prog 70 #[.pointer (some ⟨g, 0, none⟩), .int .i64 m] w (DrawnItems g zs m w) := by
  obtain ⟨i0, hi, hz0, hz1, hz2⟩ := info_parts Try.infoItem
  have HZ2 := Lib.hid hz2
  clear hz2
  have hlt := cur_lt h
  have hO := Lib.hid (own_nil w 100 5 w.heap.size w.heap.size rfl (Nat.le_refl _))
  go_enter Try.func70, Try.ntmps70
  go_wp2_with fail
  refine (l1Below_any g zs (m + 1) _ (cur_alloc h _) (by omega)).mono ?_
  rintro e w1 ⟨x, rfl, x0, x1, cu, G⟩
  simp at x1
  have hO2 : Hid (OwnS itLay 100 w1 w.heap.size (.slice (some ⟨w.heap.size, 0, none⟩) 0 0) []) := ownS_far (xs := []) hO.out G hlt
  replace G := Lib.hid (grown_trans (World.grownBy_alloc w _ (some g)) G)
  clear hO h
  go_wp2
  go_loopw [5, 6] (fun v i wr => ∃ (t : Int) (ys : List It), 0 ≤ t ∧ i = .int .i64 t ∧ (ys.length : Int) + t ≤ m ∧ OwnS itLay 100 wr w.heap.size v ys ∧ Cur g zs wr ∧ w.grownBy wr (some g))
    (fun _ i _ => (intOf i).toNat)
  case atStart => exact ⟨x, [], x0, rfl, by simp; omega, hO2.out, cu, G.out⟩
  case round =>
    obtain ⟨t, ys, ht, rfl, hl, ho, hc, hgr⟩ := hrel
    obtain ⟨a', c', rfl, hr⟩ := OwnS.rd ho
    have HO := Lib.hid ho
    have HG := Lib.hid hgr
    have hsz := hgr.size
    clear ho hgr hO2 G hr
    by_cases hlt2 : 0 < t
    · go_wp2_with fail
      refine (l4Draw_any g zs _ hc).mono ?_
      rintro e w3 ⟨y, rfl, c3, g3⟩
      have HO1 := Lib.hid (OwnS.below (ownS_far HO.out g3 hlt) (new_below w3 (.cells #[.int .i64 y.id, .int .i64 y.x0, .int .i64 y.y0, .int .i64 y.x1, .int .i64 y.y1] 100)))
      have HG1 := Lib.hid (grown_alloc (grown_trans HG.out g3) (.cells #[.int .i64 y.id, .int .i64 y.x0, .int .i64 y.y0, .int .i64 y.x1, .int .i64 y.y1] 100))
      have hsz1 := g3.size
      have K := blk_new w3 #[.int .i64 y.id, .int .i64 y.x0, .int .i64 y.y0, .int .i64 y.x1, .int .i64 y.y1] 100
      have C3 := Lib.hid (cur_alloc c3 (.cells #[.int .i64 y.id, .int .i64 y.x0, .int .i64 y.y0, .int .i64 y.x1, .int .i64 y.y1] 100))
      clear g3 hc HO HG c3
      have hr := Lib.hid (rdS_owns HO1.out)
      obtain ⟨k0, f0⟩ := K
      go_wp2_with fail
      refine (sItemAt_any _ _ _ ys y.id _ hr.out).mono ?_
      rintro e w4 ⟨rfl, hb⟩
      have K := below_keep hb (by simp) _ _ ⟨k0, f0⟩
      have HO2 := Lib.hid (HO1.out.below hb)
      have HG2 := Lib.hid (grown_trans HG1.out (Below.toGrown hb (some g)))
      have C4 := Lib.hid (cur_kept C3.out (Below.toGrown hb none) (fun k hk => by cases hk))
      have hsz2 := hb.size
      simp at hsz2
      clear hb k0 f0 HO1 HG1 C3 hr
      obtain ⟨k0, f0⟩ := K
      generalize atV y.id ys 0 = p
      by_cases hp : p < 0
      · go_wp2_with (at_builtin; refine append_src rfl (.tmp 24) (.tmp 26) 92 rfl w.heap.size 100 i0 _ 5 40 Try.underlying92 hi hz0 hz1 HZ2.out rfl (by decide) (.slice a' ys.length c') ys.length (ys.flatMap itLay.cells) rfl (World.ownsRow.alloc HO2.out _) (some ⟨w4.heap.size, 0, none⟩) 1 1 (itLay.cells y) rfl rfl (fun h => by cases h) ?_ (itLay.one _) ?_ ?_ ?_ ?_)
        case refine_1 =>
          intro p hp
          cases hp
          exact World.news_of_block (cs := #[.int .i64 y.id, .int .i64 y.x0, .int .i64 y.y0, .int .i64 y.x1, .int .i64 y.y1]) (t := 100) (fr := (0, 0)) (heap_alloc_new w4 _)
        case refine_2 => unfold maxLen; omega
        case refine_3 => omega
        case refine_4 => simp; omega
        intro v' w5 hown2 hgrow2
        have hrow : ∀ j, (Value.slice a' ys.length c').ownBlock = some j → g < j := fun j hj => by have := (HO2.out.lt j hj).1; omega
        have HC2 := Lib.hid (cur_kept (cur_kept C4.out (World.grownBy_alloc w4 _ none) (fun k hk => by cases hk)) hgrow2 hrow)
        have HG3 := Lib.hid (grown_own HG2.out (World.grownBy_alloc w4 _ none) hgrow2 (fun j hj => (HO2.out.lt j hj).1))
        have HO3 := Lib.hid hown2
        clear hown2 hgrow2
        go_wp2
        go_roundw
        case rel =>
          refine ⟨t - 1, ys ++ [y], by omega, rfl, by simp; omega, ?_, HC2.out, HG3.out⟩
          exact ownS_snoc HO3.out
        case measure => simp [intOf]; omega
      · go_wp2
        go_roundw
        case rel => exact ⟨t - 1, ys, by omega, rfl, by omega, HO2.out, C4.out, HG2.out⟩
        case measure => simp [intOf]; omega
    · go_wp2
      go_ret
      exact ⟨_, ys, rfl, by omega, HO.out, hc, HG.out⟩

/-- A list of items drawn by a law. -/
def DrawnList (m : Nat) (w : World) (e : Ending) (w' : World) : Prop :=
  ∃ v ys, e = .returned v ∧ ys.length ≤ m ∧ OwnS itLay 100 w' w.heap.size v ys ∧ Below w.heap.size w w'
end Go.Proofs.Ytfgmjegemlkkkaa

/- Locals' blocks. -/
namespace Go.Proofs.Ytfgmjegemlkkkaa
open Go.RowKit

/-- A local's block: there, with these cells, not frozen. -/
def Loc (W : World) (q : Nat) (cs : Array Value) : Prop := q < W.heap.size ∧ (∀ o, W.cell? ⟨q, o, none⟩ = cs[o]?) ∧ (∀ o, W.frozen? ⟨q, o, none⟩ = false)
theorem Loc.new (W : World) (cs : Array Value) (t : TypeId) : Loc (W.alloc (.cells cs t)) W.heap.size cs := ⟨by simp, (blk_new W cs t).1, (blk_new W cs t).2⟩
theorem Loc.of {W W' : World} {q : Nat} {cs : Array Value} (h : Loc W q cs) (hs : W.heap.size ≤ W'.heap.size) (hb : W'.heap[q]? = W.heap[q]?) : Loc W' q cs :=
  ⟨Nat.lt_of_lt_of_le h.1 hs, fun o => (cell_of_heap hb o).trans (h.2.1 o), fun o => (frozen_of_heap hb o).trans (h.2.2 o)⟩
theorem Loc.below {W W' : World} {q : Nat} {cs : Array Value} (h : Loc W q cs) (hb : Below W.heap.size W W') : Loc W' q cs := h.of hb.size (hb.block q h.1)
theorem Loc.alloc {W : World} {q : Nat} {cs : Array Value} (h : Loc W q cs) (O : Obj) : Loc (W.alloc O) q cs := h.below (new_below W O)
theorem Loc.grown {W W' : World} {q : Nat} {cs : Array Value} {row : Option Nat} (h : Loc W q cs) (hg : W.grownBy W' row) (hne : ∀ k, row = some k → k ≠ q) : Loc W' q cs :=
  h.of hg.size (hg.block q h.1 (fun e => hne q e.symm rfl))
theorem Loc.far {W W' : World} {q g : Nat} {cs : Array Value} (h : Loc W q cs) (hg : W.grownBy W' (some g)) (hlt : g < q) : Loc W' q cs := h.grown hg (fun k hk => by cases hk; omega)
/-- A cell of a local is written. -/
theorem Loc.set {W : World} {q : Nat} {cs : Array Value} (h : Loc W q cs) (j : Nat) (u : Value) (hj : j < cs.size) : Loc (W.setCell ⟨q, j, none⟩ u) q (cs.setIfInBounds j u) := by
  refine ⟨by simpa using h.1, fun o => ?_, fun o => (World.frozen?_setCell _ _ _ _).trans (h.2.2 o)⟩
  by_cases e : o = j
  · subst e
    rw [World.cell?_setCell_same' _ _ _ (by rw [h.2.1 o]; simp [hj])]
    simp [hj]
  · rw [World.cell?_setCell_other _ _ _ _ (by intro h; simp only [Addr.mk.injEq] at h; exact e h.2.1.symm), h.2.1 o]
    simp [Ne.symm e]
theorem Loc.other {W : World} {q p : Nat} {cs : Array Value} (h : Loc W q cs) (j : Nat) (u : Value) (hp : p ≠ q) : Loc (W.setCell ⟨p, j, none⟩ u) q cs := h.of (by simp) (Below.heap_setCell _ _ _ _ (fun e => hp e.symm))
theorem Loc.drew {W : World} {q : Nat} {cs : Array Value} (h : Loc W q cs) : Loc W.drew q cs := h.of (Nat.le_refl _) rfl
theorem ownS_set2 {w : World} {e : TypeId} {base g : Nat} {v : Value} {xs : List It} (h : OwnS itLay e w base v xs) (hg : g < base) (j : Nat) (u : Value) : OwnS itLay e (w.setCell ⟨g, j, none⟩ u) base v xs :=
  ownS_set h (fun hj => by have := (World.ownsRow.lt h g hj).1; omega) j u
end Go.Proofs.Ytfgmjegemlkkkaa

/- The model's draws of nodes. -/
namespace Go.Proofs.Ytfgmjegemlkkkaa
open Go.RowKit

/-- What the draw of a node leaves: some entries in new memory. -/
def DrawnNode (g : Nat) (zs : List Int) (m : Nat) (w : World) (e : Ending) (w' : World) : Prop :=
  ∃ b v ys, e = .returned (.agg #[.bool b, v]) ∧ ys.length ≤ m ∧ OwnS itLay 35 w' w.heap.size v ys ∧ Cur g zs w' ∧ w.grownBy w' (some g)

theorem cur_set' {g : Nat} {zs : List Int} {W : World} (h : Cur g zs W) {b : Nat} (hb : g < b) (j : Nat) (u : Value) : Cur g zs (W.setCell ⟨b, j, none⟩ u) := cur_kept h (grown_set W b j u) (fun k hk => by cases hk; exact hb)

theorem node_end {g : Nat} {zs : List Int} {m : Nat} {w W : World} {b : Bool} {v : Value} {ys : List It} (hlt : g < w.heap.size) (hl : ys.length ≤ m) (HO : OwnS itLay 35 W (w.heap.size + 1) v ys) (CU : Cur g zs W) (HG : w.grownBy W (some g)) :
    DrawnNode g zs m w (.returned (.agg #[.bool b, v])) ((W.setCell ⟨w.heap.size, 0, none⟩ (.bool b)).setCell ⟨w.heap.size, 1, none⟩ v) :=
  ⟨b, v, ys, rfl, hl, OwnS.mono (L := itLay) (ownS_set2 (ownS_set2 HO (by omega) _ _) (by omega) _ _) (by omega), cur_set' (cur_set' CU hlt _ _) hlt _ _, grown_new (grown_new HG (Nat.le_refl _) _ _) (Nat.le_refl _) _ _⟩

set_option maxHeartbeats 1600000 in
set_option maxRecDepth 100000 in
theorem l5Draw_any (g : Nat) (zs : List Int) (w : World) (h : Cur g zs w) :
    Calls Try.prog 41 #[.pointer (some ⟨g, 0, none⟩)] w (DrawnNode g zs 4 w) := by
  have hlt := cur_lt h
  have K := Lib.hid (Loc.new w #[.bool false, .slice none 0 0] 26)
  go_enter Try.func41, Try.ntmps41
  go_wp2_with fail
  refine (l4List_any g zs 4 _ (cur_alloc h _) (by omega)).mono ?_
  rintro e w1 ⟨v, ys, rfl, hl, ho, cu, G⟩
  obtain ⟨a', c', rfl, hr⟩ := OwnS.rd ho
  replace K := Lib.hid (K.out.far G hlt)
  have HG := Lib.hid (grown_trans (World.grownBy_alloc w _ (some g)) G)
  have s1 := G.size
  simp at s1
  clear ho G h
  go_wp2_with fail
  refine (sLeafOf_any a' ys.length c' ys _ hr (by omega)).mono ?_
  rintro e w2 ⟨v2, rfl, o2, b2⟩
  obtain ⟨a2, c2, rfl, -⟩ := OwnS.rd o2
  have HN : Hid (∀ k, (Value.slice a2 ys.length c2).ownBlock = some k → k < w2.heap.size) := fun k hk => (World.ownsRow.lt o2 k hk).2
  have J := Lib.hid (Loc.new w2 #[.bool true, .slice a2 ys.length c2] 26)
  replace K := Lib.hid ((K.out.below b2).alloc (.cells #[.bool true, .slice a2 ys.length c2] 26))
  replace HG := Lib.hid (grown_alloc (grown_trans HG.out (Below.toGrown b2 (some g))) (.cells #[.bool true, .slice a2 ys.length c2] 26))
  have HO := Lib.hid (OwnS.mono (base := w.heap.size + 1) (o2.below (new_below w2 (.cells #[.bool true, .slice a2 ys.length c2] 26))) s1)
  have CU := Lib.hid (cur_alloc (cur_kept cu (Below.toGrown b2 none) (fun k hk => by cases hk)) (.cells #[.bool true, .slice a2 ys.length c2] 26))
  have s2 := b2.size
  clear o2 b2 cu hr
  have N2 : ∀ k, (Value.slice a2 ys.length c2).ownBlock = some k → k < w2.heap.size := fun k hk => HN.out k hk
  have hq : w.heap.size ≠ w2.heap.size := by omega
  have hq2 : w.heap.size < (w2.alloc (.cells #[.bool true, .slice a2 ys.length c2] 26)).heap.size := by simp; omega
  by_cases h0 : ys.length = 0
  · have hz : ¬ ((0 : Int) < (ys.length : Int)) := by omega
    have HX := Lib.hid h0
    obtain ⟨-, k0, f0⟩ := K.out
    obtain ⟨-, j0, e0⟩ := J.out
    clear h0
    go_wp2
    exact bodyPost_ret (v := .agg #[.bool true, .slice a2 ys.length c2]) (by simp [results, Try.results41, go_sem, k0]) rfl (node_end hlt hl HO.out CU.out HG.out)
  · have hz : (0 : Int) < (ys.length : Int) := by omega
    clear h0
    go_wp2_with fail
    refine (l1Once_any g zs 3 _ CU.out (by omega)).mono ?_
    rintro e w3 ⟨bb, rfl, cu, g3⟩
    replace K := Lib.hid (K.out.far g3 hlt)
    replace J := Lib.hid (J.out.far g3 (by omega))
    replace HG := Lib.hid (grown_trans HG.out g3)
    replace HO := Lib.hid (ownS_far HO.out g3 (by omega))
    replace CU := Lib.hid cu
    clear g3 cu hq2
    cases bb with
    | true =>
      have J2 := Lib.hid (J.out.set 0 (.bool false) (by simp))
      have K2 := Lib.hid (K.out.other (p := w2.heap.size) 0 (.bool false) (fun e => hq e.symm))
      have HO2 := Lib.hid (ownS_set HO.out (g := w2.heap.size) (fun hj => by have := N2 _ hj; omega) 0 (.bool false))
      have CU2 := Lib.hid (cur_set' CU.out (b := w2.heap.size) (by omega) 0 (.bool false))
      have HG2 := Lib.hid (grown_new HG.out (b := w2.heap.size) (by omega) 0 (.bool false))
      obtain ⟨-, k0, f0⟩ := K2.out
      obtain ⟨-, j1, e1⟩ := J2.out
      obtain ⟨-, j0, e0⟩ := J.out
      have hi : #[Value.bool true, .slice a2 ys.length c2].setIfInBounds 0 (.bool false) = #[.bool false, .slice a2 ys.length c2] := rfl
      rw [hi] at j1
      clear N2 hi
      go_wp2
      exact bodyPost_ret (v := .agg #[.bool false, .slice a2 ys.length c2]) (by simp [results, Try.results41, go_sem, k0]) rfl (node_end hlt hl HO2.out CU2.out HG2.out)
    | false =>
      obtain ⟨-, k0, f0⟩ := K.out
      obtain ⟨-, j0, e0⟩ := J.out
      clear N2
      go_wp2
      exact bodyPost_ret (v := .agg #[.bool true, .slice a2 ys.length c2]) (by simp [results, Try.results41, go_sem, k0]) rfl (node_end hlt hl HO.out CU.out HG.out)
end Go.Proofs.Ytfgmjegemlkkkaa

/- The model's copy of a node. -/
namespace Go.Proofs.Ytfgmjegemlkkkaa
open Go.RowKit

end Go.Proofs.Ytfgmjegemlkkkaa

/- The model's copy of a node, beside the draws. -/


/- A call of a Go function at a step of a region that draws, met by its contract. -/
namespace Go.Proofs.Ytfgmjegemlkkkaa
open Go.RowKit

theorem step_go {P : Program} {w : World} {ops : Array Oper} {o : Oper} {a : Act} {K : Act → World → Prop} {Q : Exit → Act → World → Prop} {E : Prop} (hgd : o.guard = none) (f : FuncId) (xs : Array Operand) (ts : Array TypeId)
    (ho : o.op = .call { callee := .value (.func f), args := xs, argTypes := ts }) (vs : Array Value) (hv : xs.map a.eval = vs) (eg : ∀ args w, (callFunc f args).run P w = .ok (.enter f args) w)
    {R : Value → World → Prop} (hc : Calls P f vs w fun e w' => ∃ v, e = .returned v ∧ R v w') (h : ∀ v w', R v w' → K (a.put o.dst v) w') :
    if Region.wanted o (yielded ops a.tmps) = true then Oper.wp P o a w K Q else E := by
  have hw : Region.wanted o (yielded ops a.tmps) = true := by simp [Region.wanted, hgd]
  rw [if_pos hw]
  subst hv
  have hrun : (execOp a.eval o).run P w = .ok (.enter f (xs.map a.eval)) w := by
    have e := eg (xs.map a.eval) w
    simp [execOp, ho, resolve, invoke, Act.eval, Deferred.ofValue]
    simpa using e
  unfold Oper.wp
  rw [hrun]
  show Calls P f _ w _
  refine hc.mono ?_
  rintro e w' ⟨v, rfl, hr⟩
  exact h v w' hr
end Go.Proofs.Ytfgmjegemlkkkaa

/- The model's draw of a node, good or bad. -/
namespace Go.Proofs.Ytfgmjegemlkkkaa
open Go.RowKit

/-- A block that holds a node is no row of entries. -/
def TagN (V : World) (q : Nat) : Prop := ∃ cs fr, V.heap[q]? = some (.cells cs 26 fr)
theorem TagN.new (V : World) (cs : Array Value) : TagN (V.alloc (.cells cs 26)) V.heap.size := ⟨cs, _, heap_alloc_new V _⟩
theorem TagN.of {V V' : World} {q : Nat} (h : TagN V q) (hb : V'.heap[q]? = V.heap[q]?) : TagN V' q := by obtain ⟨cs, fr, e⟩ := h; exact ⟨cs, fr, hb.trans e⟩
theorem TagN.set {V : World} {q : Nat} (h : TagN V q) (p j : Nat) (u : Value) : TagN (V.setCell ⟨p, j, none⟩ u) q := by
  obtain ⟨cs, fr, e⟩ := h
  by_cases hq : q = p
  · subst hq
    refine ⟨cs.setIfInBounds j u, fr, ?_⟩
    simp only [World.setCell, Array.getElem?_modify, e]
    simp
  · exact ⟨cs, fr, (Below.heap_setCell V ⟨p, j, none⟩ u q hq).trans e⟩
theorem TagN.ne {V : World} {q base : Nat} {v : Value} {ys : List It} (h : TagN V q) (ho : OwnS itLay 35 V base v ys) : ∀ k, v.ownBlock = some k → k ≠ q := by
  intro k hk e
  subst e
  obtain ⟨cs, fr, h⟩ := h
  rcases ho.2 with ⟨rfl, -⟩ | ⟨g, cap, cur, rfl, -, hh, -⟩
  · cases hk
  · simp [Value.ownBlock] at hk
    subst hk
    rw [hh] at h
    cases h

/-- How the draw of a node stands: its cursor, its result's block, its local's block, the entries that it owns. -/
structure StN (w V : World) (g : Nat) (zs : List Int) (q : Nat) (b : Bool) (v : Value) (ys : List It) : Prop where
  cur : Cur g zs V
  gr : w.grownBy V (some g)
  res : Loc V w.heap.size #[.bool false, .slice none 0 0]
  loc : Loc V q #[.bool b, v]
  own : OwnS itLay 35 V (w.heap.size + 1) v ys
  tag : TagN V q
  lt : w.heap.size < q
theorem StN.ne {w V : World} {g : Nat} {zs : List Int} {q : Nat} {b : Bool} {v : Value} {ys : List It} (h : StN w V g zs q b v ys) : ∀ k, v.ownBlock = some k → k ≠ q := h.tag.ne h.own
theorem StN.far {w V V' : World} {g : Nat} {zs : List Int} {q : Nat} {b : Bool} {v : Value} {ys : List It} (h : StN w V g zs q b v ys) (hlt : g < w.heap.size) (hg : V.grownBy V' (some g)) (hc : Cur g zs V') : StN w V' g zs q b v ys :=
  ⟨hc, grown_trans h.gr hg, h.res.far hg hlt, h.loc.far hg (Nat.lt_trans hlt h.lt), ownS_far h.own hg (by omega), h.tag.of (hg.block q h.loc.1 (by have := h.lt; simp; omega)), h.lt⟩
theorem StN.alloc {w V : World} {g : Nat} {zs : List Int} {q : Nat} {b : Bool} {v : Value} {ys : List It} (h : StN w V g zs q b v ys) (O : Obj) : StN w (V.alloc O) g zs q b v ys :=
  ⟨cur_alloc h.cur O, grown_alloc h.gr O, h.res.alloc O, h.loc.alloc O, h.own.below (new_below V O), h.tag.of (Below.heap_alloc V O q h.loc.1), h.lt⟩
theorem StN.drew {w V : World} {g : Nat} {zs : List Int} {q : Nat} {b : Bool} {v : Value} {ys : List It} (h : StN w V g zs q b v ys) : StN w V.drew g zs q b v ys :=
  ⟨cur_drew h.cur, grown_drew h.gr, h.res.drew, h.loc.drew, h.own.below (drew_below V), h.tag.of rfl, h.lt⟩
/-- The local's Leaf is written. -/
theorem StN.leaf {w V : World} {g : Nat} {zs : List Int} {q : Nat} {b : Bool} {v : Value} {ys : List It} (h : StN w V g zs q b v ys) (hlt : g < w.heap.size) (c : Bool) : StN w (V.setCell ⟨q, 0, none⟩ (.bool c)) g zs q c v ys :=
  ⟨cur_set' h.cur (Nat.lt_trans hlt h.lt) _ _, grown_new h.gr (Nat.le_of_lt h.lt) _ _, h.res.other _ _ (Nat.ne_of_gt h.lt), h.loc.set 0 _ (by simp), ownS_set h.own (fun hj => h.ne _ hj rfl) _ _, h.tag.set _ _ _, h.lt⟩
/-- Behind an append: how it stands, but for the local's list. -/
theorem StN.app {w V V' : World} {g : Nat} {zs : List Int} {q : Nat} {b : Bool} {v v' : Value} {ys zz : List It} (h : StN w V g zs q b v ys) (hlt : g < w.heap.size) (hg : V.grownBy V' v.ownBlock) (ho : OwnS itLay 35 V' (w.heap.size + 1) v' zz) :
    Cur g zs V' ∧ w.grownBy V' (some g) ∧ Loc V' w.heap.size #[.bool false, .slice none 0 0] ∧ Loc V' q #[.bool b, v] ∧ TagN V' q ∧ OwnS itLay 35 V' (w.heap.size + 1) v' zz := by
  have hr : ∀ j, v.ownBlock = some j → w.heap.size + 1 ≤ j := fun j hj => (World.ownsRow.lt h.own j hj).1
  exact ⟨cur_kept h.cur hg (fun k hk => by have := hr k hk; omega), grown_own h.gr (World.grownBy.refl _ _) hg (fun j hj => by have := hr j hj; omega) (fun j hj => by have := hr j hj; omega),
    h.res.grown hg (fun k hk => by have := hr k hk; omega), h.loc.grown hg h.ne, h.tag.of (hg.block q h.loc.1 (fun e => h.ne q e.symm rfl)), ho⟩
/-- .. and the local's list is written. -/
theorem StN.put {w V' : World} {g : Nat} {zs : List Int} {q : Nat} {b : Bool} {v v' : Value} {zz : List It} (hlt : g < w.heap.size) (hl : w.heap.size < q)
    (h : Cur g zs V' ∧ w.grownBy V' (some g) ∧ Loc V' w.heap.size #[.bool false, .slice none 0 0] ∧ Loc V' q #[.bool b, v] ∧ TagN V' q ∧ OwnS itLay 35 V' (w.heap.size + 1) v' zz) : StN w (V'.setCell ⟨q, 1, none⟩ v') g zs q b v' zz :=
  ⟨cur_set' h.1 (Nat.lt_trans hlt hl) _ _, grown_new h.2.1 (Nat.le_of_lt hl) _ _, h.2.2.1.other _ _ (Nat.ne_of_gt hl), h.2.2.2.1.set 1 _ (by simp), ownS_set h.2.2.2.2.2 (fun hj => h.2.2.2.2.1.ne h.2.2.2.2.2 _ hj rfl) _ _, h.2.2.2.2.1.set _ _ _, hl⟩
theorem StN.fin {w V : World} {g : Nat} {zs : List Int} {q m : Nat} {b : Bool} {v : Value} {ys : List It} (h : StN w V g zs q b v ys) (hlt : g < w.heap.size) (hl : ys.length ≤ m) :
    DrawnNode g zs m w (.returned (.agg #[.bool b, v])) ((V.setCell ⟨w.heap.size, 0, none⟩ (.bool b)).setCell ⟨w.heap.size, 1, none⟩ v) := node_end hlt hl h.own h.cur h.gr
end Go.Proofs.Ytfgmjegemlkkkaa

/- The model's draw of a node, good or bad: l5Any. -/
namespace Go.Proofs.Ytfgmjegemlkkkaa
open Go.RowKit
attribute [local go_sem ↓] Go.wp_at_zero Go.wp_at_succ

set_option maxHeartbeats 6400000 in
set_option maxRecDepth 100000 in
theorem l5Any_any (g : Nat) (zs : List Int) (w : World) (h : Cur g zs w) :
    Calls Try.prog 36 #[.pointer (some ⟨g, 0, none⟩)] w (DrawnNode g zs 8 w) := by
  obtain ⟨i0, hi, hz0, hz1, hz2⟩ := info_parts Try.infoEntry
  replace hi := Lib.hid hi
  replace hz0 := Lib.hid hz0
  replace hz1 := Lib.hid hz1
  replace hz2 := Lib.hid hz2
  have hlt := cur_lt h
  have K := Lib.hid (Loc.new w #[.bool false, .slice none 0 0] 26)
  go_enter Try.func36, Try.ntmps36
  go_wp2_with fail
  refine (l5Draw_any g zs _ (cur_alloc h _)).mono ?_
  rintro e w1 ⟨b, v, ys, rfl, hl, ho, cu, G⟩
  obtain ⟨a', c', rfl, -⟩ := OwnS.rd ho
  have s1 := G.size
  simp at s1
  have ST : Hid (StN w (w1.alloc (.cells #[.bool b, .slice a' ys.length c'] 26)) g zs w1.heap.size b (.slice a' ys.length c') ys) := Lib.hid ⟨cur_alloc cu (.cells #[.bool b, .slice a' ys.length c'] 26), grown_alloc (grown_trans (World.grownBy_alloc w (.cells #[.bool false, .slice none 0 0] 26) (some g)) G) (.cells #[.bool b, .slice a' ys.length c'] 26), (K.out.far G hlt).alloc _, Loc.new w1 _ _, OwnS.mono (L := itLay) (ho.below (new_below w1 _)) (by simp), TagN.new w1 _, by omega⟩
  clear ho cu G h K
  go_wp2_with fail
  refine (l1Below_any g zs 12 _ ST.out.cur (by omega)).mono ?_
  rintro e w2 ⟨x, rfl, x0, x1, cu, g2⟩
  simp at x1
  replace ST := Lib.hid (ST.out.far hlt g2 cu)
  generalize hq : w1.heap.size = q at *
  have hqw : w.heap.size < q := by omega
  have s2 := (Lib.hid ST.out.loc.1).out
  clear cu g2 hq
  rcases (by omega : x = 0 ∨ x = 1 ∨ x = 2 ∨ x = 3 ∨ x = 4 ∨ 5 ≤ x) with rfl | rfl | rfl | rfl | rfl | hx
  · -- 0: the kind is turned
    have ST2 := Lib.hid (ST.out.leaf hlt (!b))
    obtain ⟨-, j1, e1⟩ := ST.out.loc
    obtain ⟨-, k0, f0⟩ := ST2.out.res
    obtain ⟨-, j0, e0⟩ := ST2.out.loc
    go_wp2
    exact bodyPost_ret (v := .agg #[.bool (!b), .slice a' ys.length c']) (by simp [results, Try.results36, go_sem, k0]) rfl (ST2.out.fin hlt (by omega))
  · -- 1: one entry more
    have STd := Lib.hid (StN.drew (ST.out.alloc (.cells #[.int .i64 0, .int .i64 47, .int .i64 48, .int .i64 999, .int .i64 1000, .int .i64 (-1)] 3)))
    have RI : Hid (RdI .i64 (w2.alloc (.cells #[.int .i64 0, .int .i64 47, .int .i64 48, .int .i64 999, .int .i64 1000, .int .i64 (-1)] 3)).drew (some ⟨w2.heap.size, 0, none⟩) 6 6 [0, 47, 48, 999, 1000, -1]) := Lib.hid ((rdI_new w2 .i64 [0, 47, 48, 999, 1000, -1] _ _ 6 rfl rfl (by simp [maxLen])).below (drew_below _))
    have l0 := ST.out.loc.2.1
    have l1 := (ST.out.alloc (.cells #[.int .i64 0, .int .i64 47, .int .i64 48, .int .i64 999, .int .i64 1000, .int .i64 (-1)] 3)).loc.2.1
    have m0 := ST.out.loc.2.2
    go_wp2_with fail
    go_region_law (first
      | (refine step_go rfl 69 _ _ rfl #[.pointer (some ⟨g, 0, none⟩), .slice (some ⟨w2.heap.size, 0, none⟩) 6 6] (by simp [Act.eval]) (enters_of Try.func69 (by kernel_rfl) rfl) (R := fun v w' => ∃ y, v = .int .i64 y ∧ Cur g zs w' ∧ (w2.alloc (.cells #[.int .i64 0, .int .i64 47, .int .i64 48, .int .i64 999, .int .i64 1000, .int .i64 (-1)] 3)).drew.grownBy w' (some g)) ((l1Int_any g zs [0, 47, 48, 999, 1000, -1] (some ⟨w2.heap.size, 0, none⟩) 6 6 _ STd.out.cur RI.out (by omega) (by omega) (fun x hx => by cases hx; simp; omega)).mono (fun e w' ⟨y, he, _, c, gg⟩ => ⟨_, he, y, rfl, c, gg⟩)) ?_; rintro v w3 ⟨y, rfl, c3, g3⟩; have ST3 := Lib.hid (STd.out.far hlt g3 c3); have l3 := ST3.out.loc.2.1; have m3 := ST3.out.loc.2.2; clear c3 g3)
      | (refine step_go rfl 44 _ _ rfl #[.pointer (some ⟨g, 0, none⟩)] (by simp [Act.eval]) (enters_of Try.func44 (by kernel_rfl) rfl) (R := fun v w' => ∃ p0 p1 p2 p3, v = .agg #[.int .i64 p0, .int .i64 p1, .int .i64 p2, .int .i64 p3] ∧ Cur g zs w' ∧ w3.grownBy w' (some g)) ((l2Any_any g zs _ ST3.out.cur).mono (fun e w' ⟨p0, p1, p2, p3, he, _, c, gg⟩ => ⟨_, he, p0, p1, p2, p3, rfl, c, gg⟩)) ?_; rintro v w4 ⟨p0, p1, p2, p3, rfl, c4, g4⟩; have ST4 := Lib.hid (ST3.out.far hlt g4 c4); have l4 := ST4.out.loc.2.1; have m4 := ST4.out.loc.2.2; have ST4a := Lib.hid (ST4.out.alloc (.cells #[.int .i64 y, .int .i64 p0, .int .i64 p1, .int .i64 p2, .int .i64 p3] 35)); have l4a := ST4a.out.loc.2.1; have m4a := ST4a.out.loc.2.2; have s4 := (Lib.hid ST4.out.loc.1).out; clear c4 g4)
      | ((refine step_append_src rfl (.tmp 18) (.tmp 25) 24 rfl (w.heap.size + 1) 35 i0 _ 5 40 Try.underlying24 hi.out hz0.out hz1.out hz2.out rfl (by decide) (Value.slice a' ys.length c') ys.length (ys.flatMap itLay.cells) (by simp [Act.eval]) ST4a.out.own (some ⟨w4.heap.size, 0, none⟩) 1 1 (itLay.cells (⟨y, p0, p1, p2, p3⟩ : It)) (by simp [Act.eval]) rfl (fun h => by cases h) (fun p hp => by cases hp; exact World.news_of_block (cs := #[.int .i64 y, .int .i64 p0, .int .i64 p1, .int .i64 p2, .int .i64 p3]) (t := 35) (fr := (0, 0)) (heap_alloc_new w4 _)) (itLay.one (⟨y, p0, p1, p2, p3⟩ : It)) (by unfold maxLen; omega) (by omega) (by simp; omega) ?_); intro v5 w5 o5 g5; obtain ⟨a5, c5, rfl⟩ := owns_shape o5; have A5 := Lib.hid (StN.app (zz := ys ++ [(⟨y, p0, p1, p2, p3⟩ : It)]) ST4a.out hlt g5 (ownS_snoc o5)); have k5 := A5.out.2.2.2.1.2.1; have e5 := A5.out.2.2.2.1.2.2; clear o5))
    all_goals
      have ST6 := Lib.hid (StN.put hlt hqw A5.out)
      obtain ⟨-, k0, f0⟩ := ST6.out.res
      obtain ⟨-, j0, e0⟩ := ST6.out.loc
      go_wp2
      exact bodyPost_ret (v := .agg #[.bool b, .slice a5 (ys.length + 1) c5]) (by simp [results, Try.results36, go_sem, k0]) rfl (ST6.out.fin hlt (by simp; omega))
  · -- 2: four entries more
    go_wp2_with fail
    clear s2
    go_loopw [4] (fun vi wr => ∃ (t : Nat) (a'' : Option Addr) (c'' : Nat) (zz : List It), vi = .int .i64 t ∧ t ≤ 4 ∧ zz.length ≤ 4 + t ∧ Hid (StN w wr g zs q b (.slice a'' zz.length c'') zz)) (fun vi _ => 4 - (intOf vi).toNat)
    case atStart => exact ⟨0, a', c', ys, rfl, by omega, by omega, ST⟩
    case round =>
      clear ST
      obtain ⟨t, a'', c'', zz, rfl, ht, hlz, ST⟩ := hrel
      by_cases ht4 : t < 4
      · have z0 : (t : Int) < 4 := by omega
        obtain ⟨u, hu⟩ : ∃ u : Int, u = 31 + (t : Int) := ⟨_, rfl⟩
        have e31 : IntKind.i64.wrap (31 + (t : Int)) = u := by rw [hu, IntKind.wrap_i64]; omega
        clear hu
        have STd := Lib.hid ST.out.drew
        have l0 := ST.out.loc.2.1
        have m0 := ST.out.loc.2.2
        have s2 := (Lib.hid ST.out.loc.1).out
        go_wp2_with fail
        go_region_law (first
          | (refine step_go rfl 47 _ _ rfl #[.pointer (some ⟨g, 0, none⟩)] (by simp [Act.eval, Act.put]) (enters_of Try.func47 (by kernel_rfl) rfl) (R := fun v w' => ∃ p0 p1 p2 p3, v = .agg #[.int .i64 p0, .int .i64 p1, .int .i64 p2, .int .i64 p3] ∧ Cur g zs w' ∧ wr.drew.grownBy w' (some g)) ((l2Draw_any g zs _ STd.out.cur).mono (fun e w' ⟨p0, p1, p2, p3, he, _, c, gg⟩ => ⟨_, he, p0, p1, p2, p3, rfl, c, gg⟩)) ?_; rintro v w4 ⟨p0, p1, p2, p3, rfl, c4, g4⟩; have ST4 := Lib.hid (STd.out.far hlt g4 c4); have l4 := ST4.out.loc.2.1; have m4 := ST4.out.loc.2.2; have ST4a := Lib.hid (ST4.out.alloc (.cells #[.int .i64 u, .int .i64 p0, .int .i64 p1, .int .i64 p2, .int .i64 p3] 35)); have l4a := ST4a.out.loc.2.1; have m4a := ST4a.out.loc.2.2; have s4 := (Lib.hid ST4.out.loc.1).out; clear c4 g4)
          | ((refine step_append_src rfl (.tmp 35) (.tmp 41) 24 rfl (w.heap.size + 1) 35 i0 _ 5 40 Try.underlying24 hi.out hz0.out hz1.out hz2.out rfl (by decide) (Value.slice a'' zz.length c'') zz.length (zz.flatMap itLay.cells) (by simp [Act.eval]) ST4a.out.own (some ⟨w4.heap.size, 0, none⟩) 1 1 (itLay.cells (⟨u, p0, p1, p2, p3⟩ : It)) (by simp [Act.eval]) rfl (fun h => by cases h) (fun p hp => by cases hp; exact World.news_of_block (cs := #[.int .i64 u, .int .i64 p0, .int .i64 p1, .int .i64 p2, .int .i64 p3]) (t := 35) (fr := (0, 0)) (heap_alloc_new w4 _)) (itLay.one (⟨u, p0, p1, p2, p3⟩ : It)) (by unfold maxLen; omega) (by omega) (by simp; omega) ?_); intro v5 w5 o5 g5; obtain ⟨a5, c5, rfl⟩ := owns_shape o5; have A5 := Lib.hid (StN.app (zz := zz ++ [(⟨u, p0, p1, p2, p3⟩ : It)]) ST4a.out hlt g5 (ownS_snoc o5)); have k5 := A5.out.2.2.2.1.2.1; have e5 := A5.out.2.2.2.1.2.2; clear o5))
        all_goals
          have ST6 := Lib.hid (StN.put hlt hqw A5.out)
          go_wp2
          go_roundw
          case rel => exact ⟨t + 1, a5, c5, zz ++ [⟨u, p0, p1, p2, p3⟩], by go_num, by omega, by simp; omega, by rw [List.length_append]; exact ST6⟩
          case measure => simp [intOf]; omega
      · obtain rfl : t = 4 := by omega
        have z0 : ¬ ((4 : Int) < 4) := by omega
        obtain ⟨-, k0, f0⟩ := ST.out.res
        obtain ⟨-, j0, e0⟩ := ST.out.loc
        go_wp2
        exact bodyPost_ret (v := .agg #[.bool b, .slice a'' zz.length c'']) (by simp [results, Try.results36, go_sem, k0]) rfl (ST.out.fin hlt (by omega))
  · -- 3: the entries twice
    obtain ⟨-, j1, e1⟩ := ST.out.loc
    have HO := Lib.hid ST.out.own
    have HR := Lib.hid (rdS_owns ST.out.own)
    go_wp2_with (at_builtin; refine append_src rfl (.tmp 47) (.tmp 49) 24 rfl (w.heap.size + 1) 35 i0 _ 5 40 Try.underlying24 hi.out hz0.out hz1.out hz2.out rfl (by decide) (.slice a' ys.length c') ys.length (ys.flatMap itLay.cells) rfl HO.out a' ys.length c' (ys.flatMap itLay.cells) rfl HR.out.len HR.out.nil HR.out.news (flat_one itLay _) ?_ ?_ ?_ ?_)
    case refine_1 => unfold maxLen; omega
    case refine_2 => omega
    case refine_3 => omega
    intro v5 w5 o5 g5
    obtain ⟨a5, c5, rfl⟩ := owns_shape o5
    have HO5 : Hid (OwnS itLay 35 w5 (w.heap.size + 1) (.slice a5 (ys.length + ys.length) c5) (ys ++ ys)) := by
      show w5.ownsRow _ _ 5 _ _ _
      rw [List.length_append, List.flatMap_append]
      exact o5
    have A5 := Lib.hid (ST.out.app hlt g5 HO5.out)
    have k5 := A5.out.2.2.2.1.2.1
    have e5 := A5.out.2.2.2.1.2.2
    have ST6 := Lib.hid (StN.put hlt hqw A5.out)
    clear o5 g5 j1 e1
    obtain ⟨-, k0, f0⟩ := ST6.out.res
    obtain ⟨-, j0, e0⟩ := ST6.out.loc
    go_wp2
    exact bodyPost_ret (v := .agg #[.bool b, .slice a5 (ys.length + ys.length) c5]) (by simp [results, Try.results36, go_sem, k0]) rfl (ST6.out.fin hlt (by simp; omega))
  · -- 4: no entries
    obtain ⟨-, j1, e1⟩ := ST.out.loc
    have hs : (w2.setCell ⟨q, 1, none⟩ (.slice (some ⟨w2.heap.size, 0, none⟩) 0 0)).heap.size = w2.heap.size := by simp
    have ST6 : Hid (StN w ((w2.setCell ⟨q, 1, none⟩ (.slice (some ⟨w2.heap.size, 0, none⟩) 0 0)).alloc (.cells #[] 35)) g zs q b (.slice (some ⟨w2.heap.size, 0, none⟩) 0 0) []) :=
      Lib.hid ⟨cur_alloc (cur_set' ST.out.cur (by omega) _ _) _, grown_alloc (grown_new ST.out.gr (by omega) _ _) _, (ST.out.res.other _ _ (by omega)).alloc _, (ST.out.loc.set 1 _ (by simp)).alloc _,
        own_nil _ 35 5 (w.heap.size + 1) w2.heap.size hs (by omega), (ST.out.tag.set _ _ _).of (Below.heap_alloc _ _ _ (by rw [hs]; exact s2)), hqw⟩
    clear hs
    obtain ⟨-, k0, f0⟩ := ST6.out.res
    obtain ⟨-, j0, e0⟩ := ST6.out.loc
    go_wp2
    exact bodyPost_ret (v := .agg #[.bool b, .slice (some ⟨w2.heap.size, 0, none⟩) 0 0]) (by simp [results, Try.results36, go_sem, k0]) rfl (ST6.out.fin hlt (by simp))
  · -- as it was drawn
    have h0 : (x == 0) = false := by rw [beq_eq_false_iff_ne]; omega
    have h1 : (x == 1) = false := by rw [beq_eq_false_iff_ne]; omega
    have h2 : (x == 2) = false := by rw [beq_eq_false_iff_ne]; omega
    have h3 : (x == 3) = false := by rw [beq_eq_false_iff_ne]; omega
    have h4 : (x == 4) = false := by rw [beq_eq_false_iff_ne]; omega
    obtain ⟨-, k0, f0⟩ := ST.out.res
    obtain ⟨-, j0, e0⟩ := ST.out.loc
    go_wp2
    exact bodyPost_ret (v := .agg #[.bool b, .slice a' ys.length c']) (by simp [results, Try.results36, go_sem, k0]) rfl (ST.out.fin hlt (by omega))
end Go.Proofs.Ytfgmjegemlkkkaa

/- The model's draws of nodes for the law of all nodes. -/
namespace Go.Proofs.Ytfgmjegemlkkkaa
open Go.RowKit

theorem fieldN (b : Bool) (a : Option Addr) (n cap : Nat) (w : World) : Sem.run Try.prog (Instr.field 26 (.agg #[.bool b, .slice a n cap]) 1) w = .ok (.slice a n cap) w := by
  simp [Instr.field, asAgg, run_underlying Try.underlying26, go_sem]

/-- A node drawn by a law. -/
def DrawnNd (m : Nat) (w : World) (e : Ending) (w' : World) : Prop :=
  ∃ b v ys, e = .returned (.agg #[.bool b, v]) ∧ ys.length ≤ m ∧ OwnS itLay 35 w' w.heap.size v ys ∧ Below w.heap.size w w'
def DrawnNds (m : Nat) (w : World) (e : Ending) (w' : World) : Prop :=
  ∃ b v ys d u zs, e = .returned (.tuple #[.agg #[.bool b, v], .agg #[.bool d, u]]) ∧ ys.length ≤ m ∧ zs.length ≤ m ∧ OwnS itLay 35 w' w.heap.size v ys ∧ OwnS itLay 35 w' w.heap.size u zs ∧ Below w.heap.size w w'
def DrawnEnt (m : Nat) (w : World) (e : Ending) (w' : World) : Prop :=
  ∃ v ys n, e = .returned (.tuple #[v, .int .i64 n]) ∧ ys.length ≤ m ∧ OwnS itLay 35 w' w.heap.size v ys ∧ Below w.heap.size w w'

theorem two_end {m : Nat} {w W : World} {b d : Bool} {v u : Value} {ys xs : List It} (hl : ys.length ≤ m) (hl' : xs.length ≤ m) (HO : OwnS itLay 35 W (w.heap.size + 2) v ys) (HP : OwnS itLay 35 W (w.heap.size + 2) u xs) (B : Below w.heap.size w W) :
    DrawnNds m w (.returned (.tuple #[.agg #[.bool b, v], .agg #[.bool d, u]])) ((((W.setCell ⟨w.heap.size, 0, none⟩ (.bool b)).setCell ⟨w.heap.size, 1, none⟩ v).setCell ⟨w.heap.size + 1, 0, none⟩ (.bool d)).setCell ⟨w.heap.size + 1, 1, none⟩ u) := by
  refine ⟨b, v, ys, d, u, xs, rfl, hl, hl', OwnS.mono (L := itLay) (ownS_set2 (ownS_set2 (ownS_set2 (ownS_set2 HO ?_ _ _) ?_ _ _) ?_ _ _) ?_ _ _) (by omega), OwnS.mono (L := itLay) (ownS_set2 (ownS_set2 (ownS_set2 (ownS_set2 HP ?_ _ _) ?_ _ _) ?_ _ _) ?_ _ _) (by omega), ?_⟩
  any_goals omega
  exact (((B.setCell (p := ⟨w.heap.size, 0, none⟩) (Nat.le_refl _) _).setCell (p := ⟨w.heap.size, 1, none⟩) (Nat.le_refl _) _).setCell (p := ⟨w.heap.size + 1, 0, none⟩) (show w.heap.size ≤ w.heap.size + 1 by omega) _).setCell (p := ⟨w.heap.size + 1, 1, none⟩) (show w.heap.size ≤ w.heap.size + 1 by omega) _

end Go.Proofs.Ytfgmjegemlkkkaa

/- The draw of a slice of bytes. -/
namespace Go.Proofs.Ytfgmjegemlkkkaa
open Go.RowKit

/-- What a draw of bytes leaves. -/
def DrawnS (g : Nat) (zs : List Int) (n : Int) (w : World) (e : Ending) (w' : World) : Prop :=
  ∃ v ys, e = .returned v ∧ (ys.length : Int) = n ∧ (∀ z ∈ ys, 0 ≤ z ∧ z ≤ 255) ∧ Own .u8 5 w' w.heap.size v ys ∧ Cur g zs w' ∧ w.grownBy w' (some g)

set_option maxRecDepth 100000 in
set_option maxHeartbeats 400000 in
theorem l1Bytes_any (g : Nat) (zs : List Int) (n : Int) (w : World) (h : Cur g zs w) (hn0 : 0 ≤ n) (hn : n ≤ 1000000) :
    Calls Try.prog 48 #[.pointer (some ⟨g, 0, none⟩), .int .i64 n] w (DrawnS g zs n w) := by
  have hgw : g < w.heap.size := by obtain ⟨_, _, _, _, c⟩ := h; exact (Array.getElem?_eq_some_iff.1 c.block).1
  have hC := cur_kept h (World.grownBy_alloc w (.cells #[] 5) none) (fun k hk => by cases hk)
  have hO := World.ownsRow_lit w (base := w.heap.size) (e := 5) (size := 1) #[] 0 (Nat.le_refl _) (by simp [maxLen]) rfl
  obtain ⟨i0, hi, hz0, hz1, hz2⟩ := info_parts Try.infoU8
  have HZ2 := Lib.hid hz2
  clear hz2 h
  go_enter Try.func48, Try.ntmps48
  go_wp2
  go_loopw [5, 6] (fun v i wr => ∃ (k : Nat) (ys : List Int), (k : Int) ≤ n ∧ i = .int .i64 k ∧ ys.length = k ∧ (∀ z ∈ ys, 0 ≤ z ∧ z ≤ 255) ∧ wr.ownsRow w.heap.size 5 1 v k (ys.map (Value.int .u8)) ∧ Cur g zs wr ∧ w.grownBy wr (some g))
    (fun _ i _ => (n - intOf i).toNat)
  case atStart => exact ⟨0, [], by omega, rfl, rfl, by simp, hO, hC, World.grownBy_alloc w _ _⟩
  case round =>
    obtain ⟨k, ys, hk, rfl, hl, hy, ho, hc, hg⟩ := hrel
    obtain ⟨a', c', hv⟩ := owns_shape ho
    subst hv
    have HY := Lib.hid hy
    have HL := Lib.hid hl
    have HO := Lib.hid ho
    have HG := Lib.hid hg
    have hsz := hg.size
    clear hl hy ho hg
    by_cases hlt : (k : Int) < n
    · go_wp2_with fail
      refine (l1Byte_any g zs _ hc).mono ?_
      rintro e w1 ⟨x, rfl, x0, x1, c1, g1⟩
      have hne : (Value.slice a' k c').ownBlock = none ∨ (Value.slice a' k c').ownBlock ≠ some g := by
        cases hv : (Value.slice a' k c').ownBlock with
        | none => exact .inl rfl
        | some j => exact .inr fun e => by have := (HO.out.lt j hv).1; simp at e; omega
      have HO1 := Lib.hid (HO.out.kept g1 hne)
      have HG1 := Lib.hid (grown_trans HG.out g1)
      have hsz1 := g1.size
      have HN := Lib.hid (rdI_new w1 .u8 [x] #[.int .u8 x] 5 1 rfl rfl (by simp [maxLen]))
      clear g1 hc
      go_wp2_with (at_builtin; refine append_src rfl (.tmp 13) (.tmp 17) 22 rfl w.heap.size 5 i0 (.int .u8 0) 1 1 Try.underlying22 hi hz0 hz1 HZ2.out rfl (by decide) (.slice a' k c') k (ys.map (Value.int .u8)) rfl (HO1.out.alloc _) (some ⟨w1.heap.size, 0, none⟩) 1 1 [.int .u8 x] rfl rfl (fun h => by cases h) HN.out.news (ints_oneCell .u8 [x]) ?_ ?_ ?_ ?_)
      case refine_1 => unfold maxLen; omega
      case refine_2 => omega
      case refine_3 => simp; omega
      intro v' w2 hown2 hgrow2
      have hrow : ∀ j, (Value.slice a' k c').ownBlock = some j → g < j := fun j hj => by have := (HO1.out.lt j hj).1; omega
      have HC2 := Lib.hid (cur_kept (cur_kept c1 (World.grownBy_alloc w1 _ none) (fun k hk => by cases hk)) hgrow2 hrow)
      have HG2 := Lib.hid (grown_own HG1.out (World.grownBy_alloc w1 _ none) hgrow2 (fun j hj => (HO1.out.lt j hj).1))
      have HO2 := Lib.hid hown2
      clear hown2 hgrow2
      go_wp2
      go_roundw
      case rel =>
        refine ⟨k + 1, ys ++ [x], by omega, by go_num, by rw [List.length_append, HL.out]; rfl, ?_, ?_, HC2.out, HG2.out⟩
        · intro z hz
          rcases List.mem_append.1 hz with hz | hz
          · exact HY.out z hz
          · simp at hz; omega
        · rw [List.map_append]; exact HO2.out
      case measure => simp [intOf]; omega
    · go_wp2
      go_ret
      refine ⟨_, ys, rfl, by rw [HL.out]; omega, HY.out, ?_, hc, HG.out⟩
      unfold Own
      rw [HL.out]
      exact HO.out

end Go.Proofs.Ytfgmjegemlkkkaa
