/- The model's GetNode: a node whose bytes are given. -/
import Derived.Test.YtfgmjegemlkkkaaFormN
import Derived.Test.YtfgmjegemlkkkaaFormE
import Derived.Test.YtfgmjegemlkkkaaLeafOf
namespace Go.Proofs.Ytfgmjegemlkkkaa
open Go.RowKit
attribute [local go_sem ↓] Go.wp_at_zero Go.wp_at_succ

theorem eq_getD {zs ys : List Int} (hl : zs.length = ys.length) (h : ∀ j, j < zs.length → zs.getD j 0 = ys.getD j 0) : zs = ys := by
  rw [← gen_list zs 0 zs.length rfl, ← gen_list ys 0 zs.length hl.symm]
  exact gen_congr _ _ _ h

set_option maxRecDepth 100000 in
set_option maxHeartbeats 800000 in
theorem l6Same_any (a b : Option Addr) (n m c c' : Nat) (zs ys : List Int) (w : World) (h : RdI .u8 w a n c zs) (h' : RdI .u8 w b m c' ys) (hn : n ≤ 100000000) :
    Calls Try.prog 42 #[.slice a n c, .slice b m c'] w fun e w' => e = .returned (.bool (decide (zs = ys))) ∧ Below w.heap.size w w' := by
  have HL := Lib.hid h.1.1
  have HL' := Lib.hid h'.1.1
  have HR := Lib.hid h
  have HR' := Lib.hid h'
  clear h h'
  by_cases hlen : n = m
  · subst hlen
    go_enter Try.func42, Try.ntmps42
    go_wp2
    go_loopw [5] (fun i wr => ∃ k : Nat, k ≤ n ∧ i = .int .i64 k ∧ Hid (∀ j, j < k → zs.getD j 0 = ys.getD j 0) ∧ Below w.heap.size w wr) (fun i _ => n - (intOf i).toNat)
    case atStart => exact ⟨0, Nat.zero_le _, rfl, Lib.hid (fun j hj => by omega), Below.refl _ _⟩
    case round =>
      obtain ⟨k, hk, rfl, HA, hB⟩ := hrel
      by_cases hlt : k < n
      · obtain ⟨x, off, rfl, hc⟩ := HR.out.2 (by omega)
        obtain ⟨x', off', rfl, hc'⟩ := HR'.out.2 (by omega)
        have hck := hc k hlt
        have hck' := hc' k hlt
        have hbw : x < w.heap.size := World.block_lt_of_cell? w ⟨x, off + k, none⟩ hck
        have hbw' : x' < w.heap.size := World.block_lt_of_cell? w ⟨x', off' + k, none⟩ hck'
        rw [← hB.cell (p := ⟨x, off + k, none⟩) hbw] at hck
        rw [← hB.cell (p := ⟨x', off' + k, none⟩) hbw'] at hck'
        clear hc hc'
        have h0 : (0 : Int) ≤ k := by omega
        have h1 : (k : Int) < n := by omega
        obtain ⟨p, hp⟩ : ∃ p, zs.getD k 0 = p := ⟨_, rfl⟩
        obtain ⟨q, hq⟩ : ∃ q, ys.getD k 0 = q := ⟨_, rfl⟩
        rw [hp] at hck
        rw [hq] at hck'
        by_cases he : p = q
        · subst he
          have HS : Hid (∀ j, j < k + 1 → zs.getD j 0 = ys.getD j 0) := Lib.hid (fun j hj => by
            by_cases hjk : j < k
            · exact HA.out j hjk
            · obtain rfl : j = k := by omega
              rw [hp, hq])
          clear hp hq
          go_wp2
          go_quiet (fail)
          go_wp2
          go_roundw
          case rel => exact ⟨k + 1, by omega, by go_num, HS, below_drewN hB _⟩
          case measure => simp [intOf]; omega
        · have hne : (p != q) = true := by rw [bne_iff_ne]; exact he
          have HF : Hid (decide (zs = ys) = false) := Lib.hid (decide_eq_false (fun e => he (by rw [← hp, ← hq, e])))
          clear he hp hq
          go_wp2
          go_quiet (fail)
          go_wp2
          go_ret
          exact ⟨ret_bool HF.out.symm, below_drewN hB _⟩
      · have HF : Hid (decide (zs = ys) = true) := Lib.hid (decide_eq_true (eq_getD (by rw [HL.out, HL'.out]) (fun j hj => HA.out j (by rw [HL.out] at hj; omega))))
        go_wp2
        go_ret
        exact ⟨ret_bool HF.out.symm, hB⟩
  · have HF : Hid (decide (zs = ys) = false) := Lib.hid (decide_eq_false (fun e => hlen (by rw [← HL.out, ← HL'.out, e])))
    have hne : ((n : Int) != (m : Int)) = true := by rw [bne_iff_ne]; omega
    clear hlen
    go_enter Try.func42, Try.ntmps42
    go_wp2
    go_ret
    exact ⟨ret_bool HF.out.symm, Below.refl _ _⟩

theorem zero_res {w2 : World} {q : Nat} {u v a b : Value} (h : ∀ o, w2.cell? ⟨q, o, none⟩ = #[a, b][o]?) : ∀ o, ((w2.setCell ⟨q, 0, none⟩ u).setCell ⟨q, 1, none⟩ v).cell? ⟨q, o, none⟩ = #[u, v][o]? := by
  intro o
  rcases (by omega : o = 0 ∨ o = 1 ∨ 2 ≤ o) with rfl | rfl | ho
  · rw [World.cell?_setCell_other _ _ _ _ (by simp), World.cell?_setCell_same' _ _ _ (by rw [h 0]; rfl)]; rfl
  · rw [World.cell?_setCell_same' _ _ _ (by rw [World.cell?_setCell_other _ _ _ _ (by simp), h 1]; rfl)]; rfl
  · rw [World.cell?_setCell_other _ _ _ _ (fun e => by cases e; omega), World.cell?_setCell_other _ _ _ _ (fun e => by cases e; omega), h o]
    rw [Array.getElem?_eq_none (by simp; omega), Array.getElem?_eq_none (by simp; omega)]
theorem news2' (wr : World) (O : Obj) (cs : Array Value) (t : TypeId) (l : List Value) (hl : cs.toList = l) : ∀ j u, l[j]? = some u → ((wr.alloc O).alloc (.cells cs t)).cell? ((⟨wr.heap.size + 1, 0, none⟩ : Addr).add j) = some u := by
  subst hl
  have e : (wr.alloc O).heap.size = wr.heap.size + 1 := by simp
  rw [← e]
  exact World.news_of_block (cs := cs) (t := t) (fr := (0, 0)) (heap_alloc_new (wr.alloc O) _)
/-- The first k entries, if all of them are. -/
def hasAll (bs : List Int) : Nat → Bool
  | 0 => true
  | k + 1 => hasAll bs k && hasE bs (1 + 6 * (k : Int))
def rawAll (bs : List Int) : Nat → List It
  | 0 => []
  | k + 1 => rawAll bs k ++ [rawE bs (1 + 6 * k)]
theorem rawAll_len (bs : List Int) : ∀ k, (rawAll bs k).length = k
  | 0 => rfl
  | k + 1 => by rw [rawAll, List.length_append, rawAll_len bs k]; rfl
theorem hasAll_no {bs : List Int} {k : Nat} (h : hasE bs (1 + 6 * (k : Int)) = false) : ∀ m, k < m → hasAll bs m = false
  | m + 1, hm => by
    by_cases e : k = m
    · subst e; rw [hasAll, h, Bool.and_false]
    · rw [hasAll, hasAll_no h m (by omega), Bool.false_and]
def cntN (bs : List Int) : Nat := (bs.getD 0 0 % 16).toNat
/-- The entries that are read. -/
def listN (bs : List Int) : List It := if cntN bs ≤ 4 then rawAll bs (cntN bs) else []
def leafN (bs : List Int) : Bool := decide (bs.getD 0 0 ≥ 16)
def okN (bs : List Int) : Bool := decide (bs.length = 25) && (decide (cntN bs ≤ 4 → hasAll bs (cntN bs) = true) && decide (putN (leafN bs) (listN bs) = bs))
/-- GetNode: the node, or the zero one. -/
def RetN (bs : List Int) (w : World) (e : Ending) (w' : World) : Prop := ∃ v, e = .returned (.tuple #[.agg #[.bool (okN bs && leafN bs), v], .bool (okN bs)]) ∧ OwnS itLay 35 w' w.heap.size v (if okN bs then listN bs else []) ∧ Below w.heap.size w w'
theorem okN_len {bs : List Int} (h : bs.length ≠ 25) : okN bs = false := by unfold okN; rw [decide_eq_false h, Bool.false_and]
theorem okN_has {bs : List Int} {k : Nat} (h : hasE bs (1 + 6 * (k : Int)) = false) (hk : k < cntN bs) (h4 : cntN bs ≤ 4) : okN bs = false := by
  unfold okN
  have h1 := hasAll_no h _ hk
  rw [show decide (cntN bs ≤ 4 → hasAll bs (cntN bs) = true) = false from decide_eq_false (fun hh => by rw [hh h4] at h1; cases h1), Bool.false_and, Bool.and_false]
theorem okN_end {bs : List Int} (h : bs.length = 25) (h1 : cntN bs ≤ 4 → hasAll bs (cntN bs) = true) : okN bs = decide (putN (leafN bs) (listN bs) = bs) := by
  unfold okN
  rw [decide_eq_true h, decide_eq_true h1]
  rfl
theorem retN_no {bs : List Int} {w w' : World} (h : okN bs = false) (hB : Below w.heap.size w w') : RetN bs w (.returned (.tuple #[.agg #[.bool false, .slice none 0 0], .bool false])) w' := by
  refine ⟨.slice none 0 0, by rw [h]; rfl, ?_, hB⟩
  rw [h]
  exact ownS_none w' 35 w.heap.size

theorem putN_le (b : Bool) (xs : List It) : (putN b xs).length ≤ 100000000 := by
  unfold putN
  split
  · rename_i h
    have h1 := pad_le (bodyN b xs) 25
    have h2 := partN_le b xs xs.length
    rw [partN_all (Nat.le_refl _)] at h2
    have h3 := nodeOkV_len h
    omega
  · simp

set_option maxHeartbeats 3200000 in
set_option maxRecDepth 100000 in
theorem sGetNode_any (a : Option Addr) (n c : Nat) (bs : List Int) (w : World) (h : RdI .u8 w a n c bs) (hz : ∀ j, 0 ≤ bs.getD j 0 ∧ bs.getD j 0 ≤ 255) (hn : n ≤ 100000000) :
    Calls Try.prog 13 #[.slice a n c] w (RetN bs w) := by
  obtain ⟨i0, hi, hz0, hz1, hz2⟩ := info_parts Try.infoEntry
  replace hi := Lib.hid hi
  replace hz0 := Lib.hid hz0
  replace hz1 := Lib.hid hz1
  replace hz2 := Lib.hid hz2
  have HL := Lib.hid h.1.1
  have HR := Lib.hid h
  by_cases h25 : n = 25
  · subst h25
    obtain ⟨b, off, rfl, hc⟩ := h.2 (by omega)
    have c0 := hc 0 (by omega)
    rw [Nat.add_zero] at c0
    have hbl : b < w.heap.size := World.block_lt_of_cell? w ⟨b, off, none⟩ c0
    obtain ⟨q, hq⟩ : ∃ q, bs.getD 0 0 = q := ⟨_, rfl⟩
    obtain ⟨q0, q1⟩ := hz 0
    rw [hq] at c0 q0 q1
    obtain ⟨kk, hkk⟩ : ∃ kk : Nat, cntN bs = kk := ⟨_, rfl⟩
    have hq16 : q % 16 = (kk : Int) := by rw [← hkk]; unfold cntN; rw [hq]; omega
    have hk16 : kk < 16 := by omega
    have hmod : q.tmod 16 = (kk : Int) := by rw [Int.tmod_eq_emod_of_nonneg q0]; exact hq16
    have hlf : Hid (leafN bs = decide (q ≥ 16)) := by show leafN bs = _; unfold leafN; rw [hq]
    obtain ⟨lf, hlf2⟩ : ∃ lf, leafN bs = lf := ⟨_, rfl⟩
    rw [hlf2] at hlf
    have hz' := Lib.hid hz
    replace hkk := Lib.hid hkk
    have K := Lib.hid (blk_alloc (.cells #[.bool lf, .slice none 0 0] 26) (by simp) _ _ (blk_new w #[.bool false, .slice none 0 0] 26))
    have J := Lib.hid (blk_new1 w (.cells #[.bool false, .slice none 0 0] 26) #[.bool lf, .slice none 0 0] 26)
    have B0 : Hid (Below w.heap.size w ((w.alloc (.cells #[.bool false, .slice none 0 0] 26)).alloc (.cells #[.bool lf, .slice none 0 0] 26))) := Lib.hid (((Below.refl _ _).alloc (Nat.le_refl _) _).alloc (by simp) _)
    replace hlf2 := Lib.hid hlf2
    have hq' := hlf.out.symm
    clear h hc hz hq hq16
    go_enter Try.func13, Try.ntmps13
    go_wp2
    clear c0 hmod
    by_cases h4 : kk ≤ 4
    · go_loopw [6] (fun i wr => ∃ (k : Nat) (va : Option Addr) (vc : Nat), k ≤ kk ∧ i = .int .i64 (k : Int) ∧ Hid (hasAll bs k = true) ∧ (∀ o, wr.cell? ⟨w.heap.size, o, none⟩ = #[Value.bool false, .slice none 0 0][o]?) ∧ (∀ o, wr.frozen? ⟨w.heap.size, o, none⟩ = false) ∧ (∀ o, wr.cell? ⟨w.heap.size + 1, o, none⟩ = #[Value.bool lf, .slice va k vc][o]?) ∧ (∀ o, wr.frozen? ⟨w.heap.size + 1, o, none⟩ = false) ∧ Hid (OwnS itLay 35 wr (w.heap.size + 2) (.slice va k vc) (rawAll bs k)) ∧ Below w.heap.size w wr ∧ w.heap.size + 1 < wr.heap.size) (fun i _ => kk - (intOf i).toNat)
      case atStart => exact ⟨0, none, 0, Nat.zero_le _, rfl, rfl, K.out.1, K.out.2, J.out.1, J.out.2, Lib.hid (ownS_none _ _ _), B0.out, by simp⟩
      case round =>
        clear K J B0
        obtain ⟨k, va, vc, hk, rfl, HA, j0, f0, k0, g0, HO, hB, hS⟩ := hrel
        have z4 : (kk : Int) ≤ 4 := by omega
        by_cases hlt : k < kk
        · have z1 : (k : Int) < kk := by omega
          obtain ⟨y, hy⟩ : ∃ y, getE bs (1 + 6 * (k : Int)) = y := ⟨_, rfl⟩
          have CE := sGetEntry_any (some ⟨b, off, none⟩) 25 c bs (1 + 6 * (k : Int)) wr (HR.out.below hB) hz'.out (by omega) (wf_small _ (by omega) (by omega))
          rw [hy] at CE
          cases hh : hasE bs (1 + 6 * (k : Int)) with
          | false =>
            rw [hh] at CE
            replace CE := Lib.hid CE
            have hok : Hid (okN bs = false) := Lib.hid (okN_has hh (by rw [hkk.out]; exact hlt) (by rw [hkk.out]; exact h4))
            clear hh hy
            go_wp2_with fail
            refine CE.out.mono ?_
            rintro e w2 ⟨rfl, b2⟩
            obtain ⟨j2, f2⟩ := below_keep b2 (by omega) _ _ ⟨j0, f0⟩
            have s2 := b2.size
            have B2 := Lib.hid (hB.trans (b2.mono hB.size))
            have hq2 : w.heap.size < w2.heap.size := by omega
            have hq3 : w.heap.size ≠ w2.heap.size := by omega
            have j5 : ∀ o, (((w2.setCell ⟨w.heap.size, 0, none⟩ (.bool false)).setCell ⟨w.heap.size, 1, none⟩ (.slice none 0 0)).alloc (.cells #[.int .i64 y.id, .int .i64 y.x0, .int .i64 y.y0, .int .i64 y.x1, .int .i64 y.y1] 35)).cell? ⟨w.heap.size, o, none⟩ = #[Value.bool false, .slice none 0 0][o]? := fun o =>
              (World.cell?_alloc_lt _ _ ⟨w.heap.size, o, none⟩ (by simp; omega)).trans (zero_res j2 o)
            clear b2 hB HO
            go_wp2
            refine bodyPost_ret (v := .tuple #[.agg #[.bool false, .slice none 0 0], .bool false]) (by simp [results, Try.results13, go_sem, j5]) rfl ?_
            exact retN_no hok.out (((B2.out.setCell (p := ⟨w.heap.size, 0, none⟩) (Nat.le_refl _) _).setCell (p := ⟨w.heap.size, 1, none⟩) (Nat.le_refl _) _).alloc (by simp; omega) _)
          | true =>
            have hy2 := hy.symm.trans (getE_yes hh)
            rw [show (1 + 6 * (k : Int)).toNat = 1 + 6 * k by omega] at hy2
            have HA2 : Hid (hasAll bs (k + 1) = true) := by
              show hasAll bs (k + 1) = true
              rw [hasAll, HA.out, hh]
              rfl
            have HY : Hid (rawAll bs (k + 1) = rawAll bs k ++ [y]) := by
              show rawAll bs (k + 1) = _
              rw [rawAll, hy2]
            rw [hh] at CE
            replace CE := Lib.hid CE
            clear hh hy hy2
            go_wp2_with fail
            refine CE.out.mono ?_
            rintro e w2 ⟨rfl, b2⟩
            obtain ⟨j2, f2⟩ := below_keep b2 (by omega) _ _ ⟨j0, f0⟩
            obtain ⟨k2, g2⟩ := below_keep b2 (by omega) _ _ ⟨k0, g0⟩
            have s2 := b2.size
            have hO2 := OwnS.below HO.out b2
            have HO2 : Hid (w2.ownsRow (w.heap.size + 2) 35 5 (.slice va k vc) k ((rawAll bs k).flatMap itLay.cells)) := by
              have := hO2
              unfold OwnS at this
              rw [rawAll_len] at this
              exact Lib.hid this
            have B2 := hB.trans (b2.mono hB.size)
            have c1 := k2 1
            simp at c1
            have hq2 : w.heap.size + 1 < w2.heap.size := by omega
            have l1 := (World.cell?_alloc_lt w2 (.cells #[.int .i64 y.id, .int .i64 y.x0, .int .i64 y.y0, .int .i64 y.x1, .int .i64 y.y1] 35) ⟨w.heap.size + 1, 1, none⟩ hq2).trans c1
            clear b2 hB HO hO2 j0 f0 k0 g0 CE
            go_wp2_with (at_builtin; refine append_src rfl (.tmp 44) (.tmp 46) 24 rfl (w.heap.size + 2) 35 i0 _ 5 40 Try.underlying24 hi.out hz0.out hz1.out hz2.out rfl (by decide) (.slice va k vc) k ((rawAll bs k).flatMap itLay.cells) rfl (World.ownsRow.alloc (World.ownsRow.alloc HO2.out _) _) (some ⟨w2.heap.size + 1, 0, none⟩) 1 1 (itLay.cells y) rfl rfl (fun h => by cases h) ?_ (itLay.one _) ?_ ?_ ?_ ?_)
            case refine_1 =>
              intro p hp
              cases hp
              exact news2' w2 _ _ _ _ rfl
            case refine_2 => unfold maxLen; omega
            case refine_3 => omega
            case refine_4 => simp; omega
            intro v3 w3 o3 g3
            obtain ⟨a3, c3, rfl⟩ := owns_shape o3
            have hrow : ∀ j, (Value.slice va k vc).ownBlock = some j → w.heap.size + 2 ≤ j := fun j hj => (HO2.out.lt j hj).1
            have hsz : w2.heap.size ≤ ((w2.alloc (.cells #[.int .i64 y.id, .int .i64 y.x0, .int .i64 y.y0, .int .i64 y.x1, .int .i64 y.y1] 35)).alloc (.cells #[.int .i64 y.id, .int .i64 y.x0, .int .i64 y.y0, .int .i64 y.x1, .int .i64 y.y1] 35)).heap.size := by simp; omega
            have hcell : ∀ q, q < w2.heap.size → q < w.heap.size + 2 → w3.heap[q]? = w2.heap[q]? := fun q hq hq2 =>
              (g3.block q (by omega) (fun e => by have := hrow q e.symm; omega)).trans ((Below.heap_alloc _ _ q (by simp; omega)).trans (Below.heap_alloc w2 _ q hq))
            have j3 : ∀ o, w3.cell? ⟨w.heap.size, o, none⟩ = #[Value.bool false, .slice none 0 0][o]? := fun o => (cell_of_heap (hcell _ (by omega) (by omega)) o).trans (j2 o)
            have f3 : ∀ o, w3.frozen? ⟨w.heap.size, o, none⟩ = false := fun o => (frozen_of_heap (hcell _ (by omega) (by omega)) o).trans (f2 o)
            have k3 : ∀ o, w3.cell? ⟨w.heap.size + 1, o, none⟩ = #[Value.bool lf, .slice va k vc][o]? := fun o => (cell_of_heap (hcell _ (by omega) (by omega)) o).trans (k2 o)
            have e3 : ∀ o, w3.frozen? ⟨w.heap.size + 1, o, none⟩ = false := fun o => (frozen_of_heap (hcell _ (by omega) (by omega)) o).trans (g2 o)
            have O3 : OwnS itLay 35 w3 (w.heap.size + 2) (.slice a3 (k + 1) c3) (rawAll bs (k + 1)) := by
              unfold OwnS
              rw [HY.out, List.length_append, rawAll_len, List.flatMap_append, List.flatMap_cons, List.flatMap_nil, List.append_nil]
              exact o3
            have O4 := Lib.hid (ownS_set O3 (g := w.heap.size + 1) (fun hj => by have := (World.ownsRow.lt O3 _ hj).1; omega) 1 (.slice a3 (k + 1) c3))
            have B3 := Lib.hid ((((B2.alloc B2.size (.cells #[.int .i64 y.id, .int .i64 y.x0, .int .i64 y.y0, .int .i64 y.x1, .int .i64 y.y1] 35)).alloc (by simp; omega) (.cells #[.int .i64 y.id, .int .i64 y.x0, .int .i64 y.y0, .int .i64 y.x1, .int .i64 y.y1] 35)).grown g3 (by simp; omega) (fun j hj => by have := hrow j hj; omega)).setCell (p := ⟨w.heap.size + 1, 1, none⟩) (show w.heap.size ≤ w.heap.size + 1 by omega) (.slice a3 (k + 1) c3))
            have C3 := Lib.hid (cells_set1 k3 (.slice a3 (k + 1) c3))
            have s3 := g3.size
            simp at s3
            have s4 : w.heap.size + 1 < w3.heap.size := by omega
            clear o3 g3 O3 hcell hrow hsz
            go_wp2
            go_roundw
            case rel =>
              refine ⟨k + 1, a3, c3, by omega, by go_num, HA2, fun o => ?_, fun o => ?_, C3.out, fun o => ?_, O4, B3.out, by simpa using s4⟩
              · exact (World.cell?_setCell_other _ _ _ _ (by simp)).trans (j3 o)
              · exact (World.frozen?_setCell _ _ _ _).trans (f3 o)
              · exact (World.frozen?_setCell _ _ _ _).trans (e3 o)
            case measure => simp [intOf]; omega
        · obtain rfl : k = kk := by omega
          have hE : Hid (okN bs = decide (putN lf (rawAll bs k) = bs)) := by
            show okN bs = _
            rw [okN_end HL.out (fun _ => by rw [hkk.out]; exact HA.out), hlf2.out]
            unfold listN
            rw [hkk.out, if_pos h4]
          have hls : Hid (listN bs = rawAll bs k) := by
            show listN bs = _
            unfold listN
            rw [hkk.out, if_pos h4]
          have HRD : Hid (RdS itLay wr va k vc (rawAll bs k)) := by
            have := rdS_owns HO.out
            rw [rawAll_len] at this
            exact Lib.hid this
          have CP := Lib.hid (sPutNode_any lf va k vc (rawAll bs k) wr HRD.out)
          go_wp2_with fail
          refine CP.out.mono ?_
          rintro e w5 ⟨v5, rfl, o5, b5⟩
          obtain ⟨a5, c5, rfl, r5⟩ := Own.rd o5
          obtain ⟨pl, hpl⟩ : ∃ pl, (putN lf (rawAll bs k)).length = pl := ⟨_, rfl⟩
          rw [hpl] at r5
          rw [hpl]
          have hpl2 : pl ≤ 100000000 := by rw [← hpl]; exact putN_le _ _
          have B5 := Lib.hid (hB.trans (b5.mono hB.size))
          have J5 := Lib.hid (below_keep b5 (by omega) _ _ ⟨j0, f0⟩)
          have K5 := Lib.hid (below_keep b5 (by omega) _ _ ⟨k0, g0⟩)
          have CS := Lib.hid (l6Same_any a5 (some ⟨b, off, none⟩) pl 25 c5 c _ bs w5 r5 (HR.out.below B5.out) hpl2)
          have HO5 := Lib.hid (OwnS.below HO.out b5)
          have s5 := b5.size
          clear o5 r5 b5 j0 f0 k0 g0 HO hB CP HRD
          go_wp2_with fail
          refine CS.out.mono ?_
          rintro e w6 ⟨rfl, b6⟩
          have B6 := Lib.hid (B5.out.trans (b6.mono B5.out.size))
          obtain ⟨j0, f0⟩ := below_keep b6 (by omega) _ _ J5.out
          obtain ⟨k0, g0⟩ := below_keep b6 (by omega) _ _ K5.out
          have HO6 := Lib.hid (OwnS.below HO5.out b6)
          have s6 := b6.size
          clear b6 J5 K5 HO5 B5 CS
          have hG : w.heap.size ≠ w.heap.size + 1 := by omega
          obtain ⟨dd, hdd⟩ : ∃ dd, decide (putN lf (rawAll bs k) = bs) = dd := ⟨_, rfl⟩
          have hE2 := Lib.hid (hE.out.trans hdd)
          rw [hdd]
          clear hdd
          cases dd with
          | true =>
            have hok : Hid (okN bs = true) := hE2
            go_wp2
            refine bodyPost_ret (v := .tuple #[.agg #[.bool lf, .slice va k vc], .bool true]) (by simp [results, Try.results13, go_sem, j0]) rfl ?_
            refine ⟨.slice va k vc, by rw [hok.out, hlf2.out]; rfl, ?_, (B6.out.setCell (p := ⟨w.heap.size, 0, none⟩) (Nat.le_refl _) _).setCell (p := ⟨w.heap.size, 1, none⟩) (Nat.le_refl _) _⟩
            rw [hok.out, if_pos rfl, hls.out]
            have O := ownS_set (ownS_set HO6.out (g := w.heap.size) (fun hj => by have := (HO6.out.lt _ hj).1; omega) 0 (.bool lf)) (g := w.heap.size) (fun hj => by have := (HO6.out.lt _ hj).1; omega) 1 (.slice va k vc)
            exact OwnS.mono (L := itLay) O (by omega)
          | false =>
            have hok : Hid (okN bs = false) := hE2
            go_wp2
            refine bodyPost_ret (v := .tuple #[.agg #[.bool false, .slice none 0 0], .bool false]) (by simp [results, Try.results13, go_sem, j0]) rfl ?_
            exact retN_no hok.out ((B6.out.setCell (p := ⟨w.heap.size, 0, none⟩) (Nat.le_refl _) _).setCell (p := ⟨w.heap.size, 1, none⟩) (Nat.le_refl _) _)
    · have z4 : ¬ (kk : Int) ≤ 4 := by omega
      have z0 : (0 : Int) < kk := by omega
      obtain ⟨va, hva⟩ : ∃ va : Option Addr, va = none := ⟨_, rfl⟩
      obtain ⟨vc, hvc⟩ : ∃ vc : Nat, vc = 0 := ⟨_, rfl⟩
      go_loopw [6] (fun i wr => i = .int .i64 0 ∧ wr = (w.alloc (.cells #[.bool false, .slice none 0 0] 26)).alloc (.cells #[.bool lf, .slice none 0 0] 26)) (fun _ _ => 0)
      case atStart => exact ⟨rfl, rfl⟩
      case round =>
        obtain ⟨rfl, rfl⟩ := hrel
        have hE : Hid (okN bs = decide (putN lf [] = bs)) := by
          show okN bs = _
          rw [okN_end HL.out (fun h => absurd h (by rw [hkk.out]; exact h4)), hlf2.out]
          unfold listN
          rw [hkk.out, if_neg h4]
        have hls : Hid (listN bs = []) := by
          show listN bs = _
          unfold listN
          rw [hkk.out, if_neg h4]
        obtain ⟨wr, hwr⟩ : ∃ wr, wr = (w.alloc (.cells #[.bool false, .slice none 0 0] 26)).alloc (.cells #[.bool lf, .slice none 0 0] 26) := ⟨_, rfl⟩
        rw [← hwr] at B0 K J
        rw [← hwr]
        have hB := B0.out
        obtain ⟨j0, f0⟩ := K.out
        obtain ⟨k0, g0⟩ := J.out
        have hS : w.heap.size + 1 < wr.heap.size := by rw [hwr]; simp
        have HO : Hid (OwnS itLay 35 wr (w.heap.size + 2) (.slice none 0 0) []) := Lib.hid (ownS_none _ _ _)
        have HRD : Hid (RdS itLay wr none 0 0 []) := Lib.hid (rdS_nil _)
        clear hwr B0 K J
        have CP := Lib.hid (sPutNode_any lf none 0 0 [] wr HRD.out)
        go_wp2_with fail
        refine CP.out.mono ?_
        rintro e w5 ⟨v5, rfl, o5, b5⟩
        obtain ⟨a5, c5, rfl, r5⟩ := Own.rd o5
        obtain ⟨pl, hpl⟩ : ∃ pl, (putN lf []).length = pl := ⟨_, rfl⟩
        rw [hpl] at r5
        rw [hpl]
        have hpl2 : pl ≤ 100000000 := by rw [← hpl]; exact putN_le _ _
        have B5 := Lib.hid (hB.trans (b5.mono hB.size))
        have J5 := Lib.hid (below_keep b5 (by omega) _ _ ⟨j0, f0⟩)
        have K5 := Lib.hid (below_keep b5 (by omega) _ _ ⟨k0, g0⟩)
        have CS := Lib.hid (l6Same_any a5 (some ⟨b, off, none⟩) pl 25 c5 c _ bs w5 r5 (HR.out.below B5.out) hpl2)
        have HO5 := Lib.hid (OwnS.below HO.out b5)
        have s5 := b5.size
        clear o5 r5 b5 j0 f0 k0 g0 HO hB CP HRD
        go_wp2_with fail
        refine CS.out.mono ?_
        rintro e w6 ⟨rfl, b6⟩
        have B6 := Lib.hid (B5.out.trans (b6.mono B5.out.size))
        obtain ⟨j0, f0⟩ := below_keep b6 (by omega) _ _ J5.out
        obtain ⟨k0, g0⟩ := below_keep b6 (by omega) _ _ K5.out
        have HO6 := Lib.hid (OwnS.below HO5.out b6)
        have s6 := b6.size
        clear b6 J5 K5 HO5 B5 CS
        have hG : w.heap.size ≠ w.heap.size + 1 := by omega
        obtain ⟨dd, hdd⟩ : ∃ dd, decide (putN lf [] = bs) = dd := ⟨_, rfl⟩
        have hE2 := Lib.hid (hE.out.trans hdd)
        rw [hdd]
        clear hdd
        cases dd with
        | true =>
          have hok : Hid (okN bs = true) := hE2
          go_wp2
          refine bodyPost_ret (v := .tuple #[.agg #[.bool lf, .slice none 0 0], .bool true]) (by simp [results, Try.results13, go_sem, j0]) rfl ?_
          refine ⟨.slice none 0 0, by rw [hok.out, hlf2.out]; rfl, ?_, (B6.out.setCell (p := ⟨w.heap.size, 0, none⟩) (Nat.le_refl _) _).setCell (p := ⟨w.heap.size, 1, none⟩) (Nat.le_refl _) _⟩
          rw [hok.out, if_pos rfl, hls.out]
          have O := ownS_set (ownS_set HO6.out (g := w.heap.size) (fun hj => by have := (HO6.out.lt _ hj).1; omega) 0 (.bool lf)) (g := w.heap.size) (fun hj => by have := (HO6.out.lt _ hj).1; omega) 1 (.slice none 0 0)
          exact OwnS.mono (L := itLay) O (by omega)
        | false =>
          have hok : Hid (okN bs = false) := hE2
          go_wp2
          refine bodyPost_ret (v := .tuple #[.agg #[.bool false, .slice none 0 0], .bool false]) (by simp [results, Try.results13, go_sem, j0]) rfl ?_
          exact retN_no hok.out ((B6.out.setCell (p := ⟨w.heap.size, 0, none⟩) (Nat.le_refl _) _).setCell (p := ⟨w.heap.size, 1, none⟩) (Nat.le_refl _) _)
  · have hne : ((n : Int) != 25) = true := by rw [bne_iff_ne]; omega
    have hok : Hid (okN bs = false) := Lib.hid (okN_len (by rw [HL.out]; exact h25))
    have B0 := Lib.hid (new_below w (.cells #[.bool false, .slice none 0 0] 26))
    clear h h25
    go_enter Try.func13, Try.ntmps13
    go_wp2
    refine bodyPost_ret (v := .tuple #[.agg #[.bool false, .slice none 0 0], .bool false]) (by simp [results, Try.results13, go_sem]) rfl ?_
    exact retN_no hok.out B0.out
end Go.Proofs.Ytfgmjegemlkkkaa
