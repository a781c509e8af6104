/- Texts of this seat laid together: Node, Slice, LeafOf, Page, BookS, BookC, Loc, Copy5, StepGo, BookD, BookE, BookN, ItemAt, BookA. -/
import Derived.Test.YtfefggcfeppeiaaQPagesa
import Derived.Deep.RegionHeld3
import Derived.Deep.AppendLies
import Derived.Laws.OwnMore
import Derived.Deep.RegionLaw
import Derived.Deep.DrawnRows
import Derived.Calls
import Derived.Shelf.Abstract
import Derived.Deep.DeepCutAuto
import Derived.BigRegion
import Derived.BigQuiet

/- The laws' own helpers on nodes: a copy, how large, equality, marks. -/
namespace Go.Proofs.Ytfefggcfeppeiaa
open Go.RowKit

theorem size_alloc3 (w : World) (a b c : Obj) : (((w.alloc a).alloc b).alloc c).heap.size = w.heap.size + 1 + 1 + 1 := by simp
theorem ownS_set {w : World} {e : TypeId} {base g : Nat} {v : Value} {xs : List It} (h : OwnS itLay e w base v xs) (hg : v.ownBlock = some g → False) (j : Nat) (u : Value) : OwnS itLay e (w.setCell ⟨g, j, none⟩ u) base v xs := by
  refine OwnS.kept h (grown_setCell (World.grownBy.refl _ _) g j u rfl) ?_
  cases hv : v.ownBlock with
  | none => exact .inl rfl
  | some i => exact .inr fun e => hg (hv.trans e)
/-- A node in new memory: its entries are owned. -/
def NewNode (b : Bool) (xs : List It) (w : World) (e : Ending) (w' : World) : Prop := ∃ v, e = .returned (.agg #[.bool b, v]) ∧ OwnS itLay 92 w' w.heap.size v xs ∧ Below w.heap.size w w'

set_option maxRecDepth 100000 in
set_option maxHeartbeats 800000 in
/-- laws.toNode: a copy in new memory. -/
theorem toNode_any (b : Bool) (a : Option Addr) (n cap : Nat) (xs : List It) (w : World) (h : RdS itLay w a n cap xs) (hn : n ≤ 4398046511104) :
    Calls Try.prog 118 #[.agg #[.bool b, .slice a n cap]] w (NewNode b xs w) := by
  have K := blk_alloc (.cells #[.bool b, .slice none 0 0] 32) (by simp) _ _ (blk_new1 w (.cells #[.bool b, .slice a n cap] 123) #[.bool false, .slice none 0 0] 32)
  have J := blk_new2 w (.cells #[.bool b, .slice a n cap] 123) (.cells #[.bool false, .slice none 0 0] 32) #[.bool b, .slice none 0 0] 32
  have B0 : Below w.heap.size w (((w.alloc (.cells #[.bool b, .slice a n cap] 123)).alloc (.cells #[.bool false, .slice none 0 0] 32)).alloc (.cells #[.bool b, .slice none 0 0] 32)) := (((Below.refl _ _).alloc (Nat.le_refl _) _).alloc (by simp) _).alloc (by simp; omega) _
  replace K := Lib.hid K
  replace J := Lib.hid J
  go_enter Try.func118, Try.ntmps118
  go_wp2_with fail
  refine (toEntryS_any a n cap xs _ (h.below B0) hn).mono ?_
  rintro e w1 ⟨v, rfl, ho, hb⟩
  obtain ⟨av, cv, rfl, hr⟩ := ho.rd
  have s1 := hb.size
  simp at s1
  obtain ⟨k0, f0⟩ := below_keep hb (by simp) _ _ K.out
  obtain ⟨j0, g0⟩ := below_keep hb (by simp) _ _ J.out
  have HO := Lib.hid ho
  have B := Lib.hid (B0.trans (hb.mono (by simp; omega)))
  clear ho hr hb B0 h
  have hne : w.heap.size + 1 ≠ w.heap.size + 1 + 1 := by omega
  go_wp2
  refine bodyPost_ret (v := .agg #[.bool b, .slice av xs.length cv]) (by simp [results, Try.results118, go_sem, k0]) rfl ⟨_, rfl, ?_, ?_⟩
  · refine OwnS.mono (L := itLay) (base' := w.heap.size + 1 + 1 + 1) ?_ (by omega)
    have hap : ∀ j, (Value.slice av xs.length cv).ownBlock = some j → w.heap.size + 1 + 1 + 1 ≤ j := fun j hj => by have := (HO.out.lt j hj).1; simpa using this
    have O := HO.out
    simp only [size_alloc3] at O
    refine ownS_set (ownS_set (ownS_set O ?_ _ _) ?_ _ _) ?_ _ _ <;> (intro hj; have := hap _ hj; omega)
  · exact ((B.out.setCell (p := ⟨w.heap.size + 1 + 1, 1, none⟩) (show w.heap.size ≤ w.heap.size + 1 + 1 by omega) _).setCell (p := ⟨w.heap.size + 1, 0, none⟩) (show w.heap.size ≤ w.heap.size + 1 by omega) _).setCell (p := ⟨w.heap.size + 1, 1, none⟩) (show w.heap.size ≤ w.heap.size + 1 by omega) _

set_option maxRecDepth 100000 in
set_option maxHeartbeats 400000 in
/-- laws.szNode. -/
theorem szNode_any (b : Bool) (a : Option Addr) (n cap : Nat) (left : Int) (w : World) (hn : n ≤ maxLen) (hl : 0 ≤ left ∧ left ≤ 1048576) :
    Calls Try.prog 117 #[.agg #[.bool b, .slice a n cap], .int .i64 left] w fun e w' => e = .returned (.int .i64 (if left - n < 0 then -1 else left - n)) ∧ Below w.heap.size w w' := by
  have C := Lib.hid (fun W : World => szEntryS_any a n cap left W hn hl)
  by_cases h : left - n < 0
  · rw [if_pos h] at C ⊢
    go_enter Try.func117, Try.ntmps117
    go_wp2_with fail
    refine (C.out _).mono ?_
    rintro e w1 ⟨rfl, rfl⟩
    go_wp2
    go_ret
    exact ⟨rfl, new_below _ _⟩
  · rw [if_neg h] at C ⊢
    have h2 : ¬ left - (n : Int) < 0 := h
    go_enter Try.func117, Try.ntmps117
    go_wp2_with fail
    refine (C.out _).mono ?_
    rintro e w1 ⟨rfl, rfl⟩
    go_wp2
    go_ret
    exact ⟨rfl, new_below _ _⟩

set_option maxRecDepth 100000 in
set_option maxHeartbeats 800000 in
/-- laws.eqNode: two nodes that read alike. -/
theorem eqNode_same (c : Bool) (a b : Option Addr) (n c1 c2 : Nat) (xs : List It) (w : World) (h : RdS itLay w a n c1 xs) (h' : RdS itLay w b n c2 xs) (hn : n ≤ 4398046511104) :
    Calls Try.prog 119 #[.agg #[.bool c, .slice a n c1], .agg #[.bool c, .slice b n c2]] w fun e w' => e = .returned (.bool true) ∧ Below w.heap.size w w' := by
  have B0 : Below w.heap.size w ((w.alloc (.cells #[.bool c, .slice a n c1] 32)).alloc (.cells #[.bool c, .slice b n c2] 32)) := ((Below.refl _ _).alloc (Nat.le_refl _) _).alloc (by simp) _
  go_enter Try.func119, Try.ntmps119
  go_wp2_with fail
  refine (eqEntryS_same a b n c1 c2 xs _ (h.below B0) (h'.below B0) hn).mono ?_
  rintro e w1 ⟨rfl, hb⟩
  go_wp2
  go_ret
  exact ⟨rfl, B0.trans (hb.mono (by simp; omega))⟩

end Go.Proofs.Ytfefggcfeppeiaa

/- Slices of slices: what l[:k] and l[k:] read; append from any source at a step of a region that draws. -/
namespace Go.Proofs.Ytfefggcfeppeiaa
open Go.RowKit

section
variable {α : Type} {L : Lay α} {w w' : World} {a : Option Addr} {n cap : Nat} {xs : List α}
theorem RdS.take (h : RdS L w a n cap xs) (k : Nat) (hk : k ≤ n) : RdS L w a k cap (xs.take k) := by
  obtain ⟨⟨h1, h2, h3, h4⟩, h5⟩ := h
  refine ⟨⟨by rw [List.length_take]; omega, by omega, h3, fun ha => ⟨by have := (h4 ha).1; omega, (h4 ha).2⟩⟩, fun hn => ?_⟩
  obtain ⟨b, off, e, hc⟩ := h5 (by omega)
  refine ⟨b, off, e, fun i x hi => hc i x ?_⟩
  rw [List.getElem?_take] at hi
  split at hi
  · exact hi
  · cases hi
theorem add_lit (b off m : Nat) : (⟨b, off, none⟩ : Addr).add m = ⟨b, off + m, none⟩ := Addr.add_lit b off m
theorem RdS.drop (h : RdS L w a n cap xs) (k : Nat) (hk : k ≤ n) : RdS L w (if cap = k then a else a.map (·.add (k * L.sz))) (n - k) (cap - k) (xs.drop k) := by
  obtain ⟨⟨h1, h2, h3, h4⟩, h5⟩ := h
  refine ⟨⟨by rw [List.length_drop]; omega, by omega, by omega, fun ha => ?_⟩, fun hn => ?_⟩
  · have ha' : a = none := by
      split at ha
      · exact ha
      · cases a with
        | none => rfl
        | some p => cases ha
    have := h4 ha'
    omega
  · obtain ⟨b, off, e, hc⟩ := h5 (by omega)
    refine ⟨b, off + k * L.sz, ?_, fun i x hi j u hj => ?_⟩
    · rw [if_neg (by omega), e]
      simp [add_lit]
    · rw [List.getElem?_drop] at hi
      have := hc (k + i) x hi j u hj
      rw [Nat.add_mul] at this
      rw [show off + k * L.sz + (i * L.sz + j) = off + (k * L.sz + i * L.sz + j) by omega]
      exact this
theorem RdS.news (h : RdS L w a n cap xs) : ∀ p, a = some p → ∀ j u, (xs.flatMap L.cells)[j]? = some u → w.cell? (p.add j) = some u := by
  intro p hp j u hu
  have hs := L.pos
  have hd := Nat.div_add_mod j L.sz
  have hm := Nat.mod_lt j hs
  rw [Nat.mul_comm] at hd
  have hf := flat_at L xs (j / L.sz) (j % L.sz) hm
  rw [hd, hu] at hf
  cases hx : xs[j / L.sz]? with
  | none => rw [hx] at hf; cases hf
  | some x =>
    rw [hx] at hf
    have hlt : j / L.sz < n := by have := (List.getElem?_eq_some_iff.1 hx).1; rw [h.1.1] at this; exact this
    obtain ⟨b, off, e, hc⟩ := h.2 (Nat.lt_of_le_of_lt (Nat.zero_le _) hlt)
    rw [hp] at e
    obtain rfl := Option.some.inj e
    rw [Addr.add_lit]
    have := hc _ x hx _ u hf.symm
    rw [hd] at this
    exact this
theorem RdS.alloc (h : RdS L w a n cap xs) (o : Obj) : RdS L (w.alloc o) a n cap xs := h.below ((Below.refl _ _).alloc (Nat.le_refl _) _)
theorem RdS.nil (h : RdS L w a n cap xs) : a = none → n = 0 ∧ cap = 0 := h.1.2.2.2
theorem RdS.len (h : RdS L w a n cap xs) : (xs.flatMap L.cells).length = n * L.sz := by rw [flat_len, h.1.1]
end

/-- An empty literal. -/
theorem own_nil (w : World) (e : TypeId) (size base g : Nat) (hg : w.heap.size = g) (hb : base ≤ g) : (w.alloc (.cells #[] e)).ownsRow base e size (.slice (some ⟨g, 0, none⟩) 0 0) 0 [] := by
  subst hg
  exact World.ownsRow_lit (size := size) w #[] 0 hb (by simp [maxLen]) (by simp)
/-- 'append(out, xs...)' at a step of a region that draws: out the call's own, xs whatever: nil, empty or not. -/
theorem step_append_src {P : Program} {w : World} {ops : Array Oper} {o : Oper} {a : Act} {K : Act → World → Prop} {Q : Exit → Act → World → Prop} {E : Prop} (hgd : o.guard = none) (s x : Operand) (t : TypeId)
    (ho : o.op = .call { callee := .builtin .append, args := #[s, x], argTypes := #[t, t] })
    (base : Nat) (e : TypeId) (i : TypeInfo) (z : Value) (size bytes : Nat) (ht : P.underlying t = some (.slice e)) (hi : P.info? e = some i) (hz : i.zero = some z)
    (hsize : i.size = size) (hby : i.bytes = bytes) (hzs : z.cells.size = size) (hsz : 0 < size)
    (v : Value) (n : Nat) (xs : List Value) (hs : a.eval s = v) (hown : w.ownsRow base e size v n xs)
    (ad : Option Addr) (m c : Nat) (news : List Value) (hx : a.eval x = .slice ad m c) (hl : news.length = m * size) (hnil : ad = none → m = 0 ∧ c = 0)
    (hnews : ∀ p, ad = some p → ∀ j u, news[j]? = some u → w.cell? (p.add j) = some u) (h1 : ∀ u ∈ news, u.oneCell' = true)
    (h63 : n + m ≤ maxLen) (hbytes : (n + m) * bytes ≤ 140737488355328) (hbase : base ≤ w.heap.size)
    (h : ∀ v' w', w'.ownsRow base e size v' (n + m) (xs ++ news) → w.grownBy w' v.ownBlock → K (a.put o.dst v') w') :
    if Region.wanted o (yielded ops a.tmps) = true then Oper.wp P o a w K Q else E := by
  have hw : Region.wanted o (yielded ops a.tmps) = true := by simp [Region.wanted, hgd]
  rw [if_pos hw]
  cases ad with
  | some p => exact wp_append_own w s x t ho base e i z size bytes ht hi hz hsize hby hzs hsz v n xs hs hown p m c news hx hl (hnews p rfl) h1 h63 hbytes hbase fun v' w' p1 p2 _ => h v' w' p1 p2
  | none =>
    obtain ⟨rfl, rfl⟩ := hnil rfl
    have hn : news = [] := List.eq_nil_of_length_eq_zero (by simpa using hl)
    subst hn
    have hrun := run_append_owned_none (P := P) (w := w) base t o.type e i size ht hi v n xs hown
    unfold Oper.wp
    simp [execOp, ho, resolve, invoke, builtin, hs, hx, hrun, Result.andThen]
    exact h v w (by simpa using hown) (World.grownBy.refl _ _)
end Go.Proofs.Ytfefggcfeppeiaa

/- The model's LeafOf: a leaf of the items, in order. -/
namespace Go.Proofs.Ytfefggcfeppeiaa
open Go.RowKit
attribute [local go_sem ↓] Go.wp_at_zero Go.wp_at_succ

theorem cell_of_heap {w w' : World} {q : Nat} (h : w'.heap[q]? = w.heap[q]?) (o : Nat) : w'.cell? ⟨q, o, none⟩ = w.cell? ⟨q, o, none⟩ := by
  unfold World.cell?
  simp only [h]
theorem frozen_of_heap {w w' : World} {q : Nat} (h : w'.heap[q]? = w.heap[q]?) (o : Nat) : w'.frozen? ⟨q, o, none⟩ = w.frozen? ⟨q, o, none⟩ := by
  unfold World.frozen?
  simp only [h]
theorem cells_set1 {w : World} {q : Nat} {a b : Value} (h : ∀ o, w.cell? ⟨q, o, none⟩ = #[a, b][o]?) (v : Value) : ∀ o, (w.setCell ⟨q, 1, none⟩ v).cell? ⟨q, o, none⟩ = #[a, v][o]? := by
  intro o
  rcases (by omega : o = 0 ∨ o = 1 ∨ 2 ≤ o) with rfl | rfl | ho
  · rw [World.cell?_setCell_other _ _ _ _ (by simp), h 0]; rfl
  · exact World.cell?_setCell_same w ⟨q, 1, none⟩ v (u := b) (h 1)
  · rw [World.cell?_setCell_other _ _ _ _ (fun e => by cases e; omega), h o]
    rw [Array.getElem?_eq_none (by simp; omega), Array.getElem?_eq_none (by simp; omega)]
theorem ownS_none (w : World) (e : TypeId) (base : Nat) : OwnS itLay e w base (.slice none 0 0) [] := ⟨rfl, .inl ⟨rfl, rfl⟩⟩
theorem ownS_more {w : World} {e : TypeId} {base : Nat} {v : Value} {xs : List It} {x : It} {k : Nat} (hx : xs[k]? = some x) (h : w.ownsRow base e 5 v ((xs.take k).length + 1) ((xs.take k).flatMap itLay.cells ++ itLay.cells x)) : OwnS itLay e w base v (xs.take (k + 1)) := by
  show w.ownsRow base e 5 v _ _
  rw [List.take_add_one, hx, List.length_append, List.flatMap_append]
  simpa using h

theorem app_cell {wr w2 : World} {O : Obj} {v : Value} {B q : Nat} {fo : Nat → Option Value} (hg : (wr.alloc O).drew.grownBy w2 v.ownBlock) (hrow : ∀ j, v.ownBlock = some j → B ≤ j) (h : ∀ o, wr.cell? ⟨q, o, none⟩ = fo o) (hs : q + 1 ≤ wr.heap.size) (hb : q < B := by omega) : ∀ o, w2.cell? ⟨q, o, none⟩ = fo o := by
  intro o
  have hq : q < wr.heap.size := by omega
  have hne : some q ≠ v.ownBlock := fun e => by have := hrow q e.symm; omega
  have hblk : w2.heap[q]? = wr.heap[q]? := (hg.block q (by simp; omega) hne).trans (Below.heap_alloc wr O q hq)
  rw [← h o]
  exact cell_of_heap hblk o
theorem app_frozen {wr w2 : World} {O : Obj} {v : Value} {B q : Nat} {m : Nat → Bool} (hg : (wr.alloc O).drew.grownBy w2 v.ownBlock) (hrow : ∀ j, v.ownBlock = some j → B ≤ j) (h : ∀ o, wr.frozen? ⟨q, o, none⟩ = m o) (hs : q + 1 ≤ wr.heap.size) (hb : q < B := by omega) : ∀ o, w2.frozen? ⟨q, o, none⟩ = m o := by
  intro o
  have hq : q < wr.heap.size := by omega
  have hne : some q ≠ v.ownBlock := fun e => by have := hrow q e.symm; omega
  have hblk : w2.heap[q]? = wr.heap[q]? := (hg.block q (by simp; omega) hne).trans (Below.heap_alloc wr O q hq)
  rw [← h o]
  exact frozen_of_heap hblk o

set_option maxHeartbeats 3200000 in
set_option maxRecDepth 100000 in
theorem sLeafOf_any (a : Option Addr) (n cap : Nat) (xs : List It) (w : World) (h : RdS itLay w a n cap xs) (hn : n ≤ 1099511627776) :
    Calls Try.prog 96 #[.slice a n cap] w (NewNode true xs w) := by
  obtain ⟨i0, hi, hz0, hz1, hz2⟩ := info_parts Try.infoEntry
  replace hi := Lib.hid hi
  replace hz0 := Lib.hid hz0
  replace hz1 := Lib.hid hz1
  replace hz2 := Lib.hid hz2
  have hm := h.1.2.2.1
  have hnc := h.1.2.1
  unfold maxLen at hm
  have HR := Lib.hid h
  have HL := Lib.hid h.1.1
  clear h
  have K := Lib.hid (blk_alloc (.cells #[.bool true, .slice none 0 0] 32) (by simp) _ _ (blk_new w #[.bool false, .slice none 0 0] 32))
  have J := Lib.hid (blk_new1 w (.cells #[.bool false, .slice none 0 0] 32) #[.bool true, .slice none 0 0] 32)
  have B0 : Below w.heap.size w ((w.alloc (.cells #[.bool false, .slice none 0 0] 32)).alloc (.cells #[.bool true, .slice none 0 0] 32)) := ((Below.refl _ _).alloc (Nat.le_refl _) _).alloc (by simp) _
  have hne : w.heap.size ≠ w.heap.size + 1 := by omega
  go_enter Try.func96, Try.ntmps96
  go_wp2
  go_loopw [4] (fun i wr => ∃ k v, k ≤ n ∧ i = .int .i64 (k : Int) ∧ (∀ o, wr.cell? ⟨w.heap.size, o, none⟩ = #[Value.bool false, .slice none 0 0][o]?) ∧ (∀ o, wr.frozen? ⟨w.heap.size, o, none⟩ = false) ∧ (∀ o, wr.cell? ⟨w.heap.size + 1, o, none⟩ = #[Value.bool true, v][o]?) ∧ (∀ o, wr.frozen? ⟨w.heap.size + 1, o, none⟩ = false) ∧ OwnS itLay 92 wr (w.heap.size + 1 + 1) v (xs.take k) ∧ Below w.heap.size w wr ∧ w.heap.size + 1 + 1 ≤ wr.heap.size) (fun i _ => n - (intOf i).toNat)
  case atStart => exact ⟨0, .slice none 0 0, Nat.zero_le _, rfl, K.out.1, K.out.2, J.out.1, J.out.2, ownS_none _ _ _, B0, by simp⟩
  case round =>
    obtain ⟨k, v, hk, rfl, k0, f0, j0, g0, ho, hB, hS⟩ := hrel
    obtain ⟨va, vc, rfl, hr⟩ := OwnS.rd ho
    have htl : (xs.take k).length = k := by rw [List.length_take, HL.out]; omega
    rw [htl] at ho j0 hr
    have ho' : wr.ownsRow (w.heap.size + 1 + 1) 92 5 (.slice va k vc) k ((xs.take k).flatMap itLay.cells) := by
      have := ho
      unfold OwnS at this
      rw [htl] at this
      exact this
    by_cases hlt : k < n
    · obtain ⟨b, off, x, rfl, hbl, hx, d0, d1, d2, d3, d4⟩ := rdIt_at (HR.out.below hB) hlt
      have HX := Lib.hid hx
      have HO := Lib.hid ho'
      have c1 := j0 1
      simp at c1
      have hrow : ∀ j, (Value.slice va k vc).ownBlock = some j → w.heap.size + 1 + 1 ≤ j := fun j hj => (HO.out.lt j hj).1
      have hvb : b < w.heap.size := HR.out.lt (by omega) rfl
      have z0 : (0 : Int) ≤ k := by omega
      have z1 : (k : Int) < n := by omega
      have hq1 : w.heap.size + 1 < wr.heap.size := by omega
      have hq2 : w.heap.size + 1 ≠ wr.heap.size := by omega
      have hq3 : b < wr.heap.size := by omega
      have hq4 : b ≠ wr.heap.size := by omega
      have l1 := (World.cell?_alloc_lt wr (.cells #[.int .i64 x.id, .int .i64 x.x0, .int .i64 x.y0, .int .i64 x.x1, .int .i64 x.y1] 92) ⟨w.heap.size + 1, 1, none⟩ hq1).trans c1
      have htk := Lib.hid htl
      clear hr hx ho ho' htl
      go_wp2_with fail
      go_region_law ((refine step_append_src rfl (.tmp 13) (.tmp 25) 30 rfl (w.heap.size + 1 + 1) 92 i0 _ 5 40 Try.underlying30 hi.out hz0.out hz1.out hz2.out rfl (by decide) (.slice va k vc) k ((xs.take k).flatMap itLay.cells) (by simp [Act.eval]) (World.ownsRow.drew (World.ownsRow.alloc HO.out (.cells #[.int .i64 x.id, .int .i64 x.x0, .int .i64 x.y0, .int .i64 x.x1, .int .i64 x.y1] 92))) (some ⟨wr.heap.size, 0, none⟩) 1 1 (itLay.cells x) (by simp [Act.eval]) rfl (fun h => by cases h) (fun p hp => by cases hp; exact World.news_of_block (cs := #[.int .i64 x.id, .int .i64 x.x0, .int .i64 x.y0, .int .i64 x.x1, .int .i64 x.y1]) (t := 92) (fr := (0, 0)) (heap_alloc_new wr _)) (itLay.one x) (by unfold maxLen; omega) (by omega) (by simp; omega) ?_); intro v2 w2 o2 g2; have c2 := app_cell g2 hrow j0 hS; have e2 := app_frozen g2 hrow g0 hS; have c3 := app_cell g2 hrow k0 (by omega); have e3 := app_frozen g2 hrow f0 (by omega); obtain ⟨ra, rc, rfl⟩ := owns_shape o2)
      all_goals
        have O3 := Lib.hid (ownS_set (ownS_more HX.out (by rw [htk.out]; exact o2)) (g := w.heap.size + 1) (fun hj => by have := (o2.lt _ hj).1; omega) 1 (.slice ra (k + 1) rc))
        have B3 := Lib.hid ((((hB.alloc (by omega) (.cells #[.int .i64 x.id, .int .i64 x.x0, .int .i64 x.y0, .int .i64 x.x1, .int .i64 x.y1] 92)).drew).grown g2 (by simp; omega) (fun j hj => by have := hrow j hj; omega)).setCell (p := ⟨w.heap.size + 1, 1, none⟩) (show w.heap.size ≤ w.heap.size + 1 by omega) (.slice ra (k + 1) rc))
        have C3 := Lib.hid (cells_set1 c2 (.slice ra (k + 1) rc))
        have S3 := g2.size
        simp at S3
        clear o2
        go_wp2
        go_roundw
        case rel =>
          refine ⟨k + 1, .slice ra (k + 1) rc, by omega, by go_num, fun o => ?_, fun o => ?_, C3.out, fun o => ?_, O3.out, B3.out, by simp; omega⟩
          · exact (World.cell?_setCell_other _ _ _ _ (by simp)).trans (c3 o)
          · exact (World.frozen?_setCell _ _ _ _).trans (e3 o)
          · exact (World.frozen?_setCell _ _ _ _).trans (e2 o)
        case measure => simp [intOf]; omega
    · obtain rfl : k = n := by omega
      have hall : xs.take k = xs := List.take_of_length_le (by rw [HL.out]; exact Nat.le_refl _)
      have hlk : Hid (xs.length = k) := HL.out
      have HO := Lib.hid ho
      clear ho ho' hr htl
      go_wp2
      refine bodyPost_ret (v := .agg #[.bool true, .slice va k vc]) (by simp [results, Try.results96, go_sem, k0]) rfl ⟨_, rfl, ?_, ?_⟩
      · rw [hall] at HO
        have O := ownS_set (ownS_set HO.out (g := w.heap.size) (fun hj => by have := (HO.out.lt _ hj).1; omega) 0 (.bool true)) (g := w.heap.size) (fun hj => by have := (HO.out.lt _ hj).1; omega) 1 (.slice va k vc)
        exact OwnS.mono (L := itLay) O (by omega)
      · exact (hB.setCell (p := ⟨w.heap.size, 0, none⟩) (Nat.le_refl _) _).setCell (p := ⟨w.heap.size, 1, none⟩) (Nat.le_refl _) _
end Go.Proofs.Ytfefggcfeppeiaa

/- Pages in memory: a row whose elements hold rows of their own. What is read, what is owned, what a change elsewhere leaves. -/
namespace Go.Proofs.Ytfefggcfeppeiaa
open Go.RowKit

/-- A page as it lies in memory: two marks and a slice of entries. -/
structure PgV where
  used : Bool
  leaf : Bool
  a : Option Addr
  n : Nat
  cap : Nat
  xs : List It
/-- What a page is. -/
structure Pg where
  used : Bool
  leaf : Bool
  xs : List It
def PgV.pg (p : PgV) : Pg := ⟨p.used, p.leaf, p.xs⟩
def PgV.sl (p : PgV) : Value := .slice p.a p.n p.cap
def pgLay : Lay PgV := ⟨3, fun p => [.bool p.used, .bool p.leaf, .slice p.a p.n p.cap], fun _ => rfl, by decide, fun x u hu => by simp at hu; rcases hu with rfl | rfl | rfl <;> rfl⟩
def zeroPgV : PgV := ⟨false, false, none, 0, 0, []⟩

/-- A slice of pages, read to the bottom. -/
def RdP (w : World) (a : Option Addr) (n cap : Nat) (ps : List PgV) : Prop := RdS pgLay w a n cap ps ∧ ∀ p ∈ ps, RdS itLay w p.a p.n p.cap p.xs
theorem RdP.below {w w' : World} {a : Option Addr} {n cap : Nat} {ps : List PgV} (h : RdP w a n cap ps) (hB : Below w.heap.size w w') : RdP w' a n cap ps := ⟨h.1.below hB, fun p hp => (h.2 p hp).below hB⟩
theorem rdP_nil (w : World) : RdP w none 0 0 [] := ⟨rdS_nil w, fun p hp => by cases hp⟩
/-- A page's three cells. -/
theorem rdP_at {w : World} {a : Option Addr} {n cap i : Nat} {ps : List PgV} (h : RdP w a n cap ps) (hi : i < n) :
    ∃ b off p, a = some ⟨b, off, none⟩ ∧ b < w.heap.size ∧ ps[i]? = some p ∧ RdS itLay w p.a p.n p.cap p.xs ∧ w.cell? ⟨b, off + i * 3, none⟩ = some (.bool p.used) ∧ w.cell? ⟨b, off + i * 3 + 1, none⟩ = some (.bool p.leaf) ∧
      w.cell? ⟨b, off + i * 3 + 1 + 1, none⟩ = some (.slice p.a p.n p.cap) := by
  obtain ⟨b, off, e, hlt, p, hp, hc⟩ := h.1.at_ hi
  exact ⟨b, off, p, e, hlt, hp, h.2 p (List.mem_of_getElem? hp), hc 0 _ rfl, hc 1 _ rfl, hc 2 _ rfl⟩

/-- What changes lies in the blocks lo, .., hi - 1. -/
structure ChgIn (lo hi : Nat) (w w' : World) : Prop where
  os : w'.os = w.os
  tape : w'.tape = w.tape
  output : w'.output = w.output
  size : w.heap.size ≤ w'.heap.size
  block : ∀ k, k < w.heap.size → ¬ (lo ≤ k ∧ k < hi) → w'.heap[k]? = w.heap[k]?
theorem ChgIn.refl (lo hi : Nat) (w : World) : ChgIn lo hi w w := ⟨rfl, rfl, rfl, Nat.le_refl _, fun _ _ _ => rfl⟩
theorem ChgIn.trans {lo hi : Nat} {a b c : World} (h : ChgIn lo hi a b) (k : ChgIn lo hi b c) : ChgIn lo hi a c :=
  ⟨k.os.trans h.os, k.tape.trans h.tape, k.output.trans h.output, Nat.le_trans h.size k.size, fun i hi hn => (k.block i (Nat.lt_of_lt_of_le hi h.size) hn).trans (h.block i hi hn)⟩
theorem ChgIn.of_grown {lo hi : Nat} {w w' : World} {row : Option Nat} (h : w.grownBy w' row) (hr : ∀ g, row = some g → lo ≤ g ∧ g < hi) : ChgIn lo hi w w' :=
  ⟨h.os, h.tape, h.output, h.size, fun k hk hn => h.block k hk (fun e => hn (hr k e.symm))⟩
theorem ChgIn.of_below {lo hi : Nat} {w w' : World} (h : Below w.heap.size w w') : ChgIn lo hi w w' := ⟨h.os, h.tape, h.output, h.size, fun k hk _ => h.block k hk⟩
theorem ChgIn.below {lo hi B : Nat} {a w w' : World} (h : Below B a w) (hs : B ≤ w.heap.size) (c : ChgIn lo hi w w') (hB : B ≤ lo) : Below B a w' :=
  ⟨c.os.trans h.os, c.tape.trans h.tape, c.output.trans h.output, Nat.le_trans h.size c.size, fun k hk => (c.block k (by omega) (by omega)).trans (h.block k hk)⟩
/-- What a fact about memory reads lies in the blocks lo, .., hi - 1. -/
def Frame (lo hi : Nat) (P : World → Prop) : Prop := ∀ w w' : World, (∀ k, lo ≤ k → k < hi → w'.heap[k]? = w.heap[k]?) → P w → P w'
theorem Frame.kept {lo hi : Nat} {P : World → Prop} (f : Frame lo hi P) {w w' : World} (h : P w) (hB : Below w.heap.size w w') (hs : hi ≤ w.heap.size) : P w' := f w w' (fun k _ hk => hB.block k (by omega)) h
theorem Frame.chg {lo hi lo' hi' : Nat} {P : World → Prop} (f : Frame lo hi P) {w w' : World} (h : P w) (c : ChgIn lo' hi' w w') (hs : hi ≤ w.heap.size) (hd : hi ≤ lo' ∨ hi' ≤ lo) : P w' :=
  f w w' (fun k h1 h2 => c.block k (by omega) (by omega)) h

section
variable {α : Type} {L : Lay α} {w w' : World} {e : TypeId} {base : Nat} {v : Value} {xs : List α}
theorem ownsRow_frame {size n : Nat} {xs : List Value} {hi : Nat} (hv : ∀ g, v.ownBlock = some g → base ≤ g ∧ g < hi) : Frame base hi (fun w => w.ownsRow base e size v n xs) := by
  rintro w w' ha ⟨h1, h2⟩
  refine ⟨h1, ?_⟩
  rcases h2 with h2 | ⟨g, cap, cur, hv', hg, hh, r⟩
  · exact .inl h2
  · refine .inr ⟨g, cap, cur, hv', hg, ?_, r⟩
    obtain ⟨h3, h4⟩ := hv g (by rw [hv']; rfl)
    rw [ha g h3 h4]
    exact hh
theorem OwnS.frame (h : OwnS L e w base v xs) : Frame base w.heap.size (fun w => OwnS L e w base v xs) := ownsRow_frame (fun g hg => World.ownsRow.lt h g hg)
theorem Own.frame {k : IntKind} {zs : List Int} (h : Own k e w base v zs) : Frame base w.heap.size (fun w => Own k e w base v zs) := ownsRow_frame (fun g hg => World.ownsRow.lt h g hg)
theorem RdS.frame {a : Option Addr} {n cap lo hi : Nat} (ha : ∀ b off, a = some ⟨b, off, none⟩ → 0 < n → lo ≤ b ∧ b < hi) : Frame lo hi (fun w => RdS L w a n cap xs) := by
  rintro w w' hh ⟨h1, h2⟩
  refine ⟨h1, fun hn => ?_⟩
  obtain ⟨b, off, e, hc⟩ := h2 hn
  refine ⟨b, off, e, fun i x hi j u hj => ?_⟩
  obtain ⟨h3, h4⟩ := ha b off e hn
  have := hc i x hi j u hj
  rw [← this]
  exact World.cell?_of_block (a := ⟨b, off + (i * L.sz + j), none⟩) (hh b h3 h4)
end
theorem cells_frame (q : Nat) (f : Nat → Option Value) : Frame q (q + 1) (fun w => ∀ o, w.cell? ⟨q, o, none⟩ = f o) := by
  intro w w' ha h o
  rw [← h o]
  exact World.cell?_of_block (a := ⟨q, o, none⟩) (ha q (Nat.le_refl _) (Nat.lt_succ_self _))

/-- A slice of pages that the call owns: the row, and each page's entries; all of them apart. -/
structure OwnP (w : World) (base : Nat) (v : Value) (ps : List PgV) : Prop where
  row : OwnS pgLay 48 w base v ps
  ent : ∀ p ∈ ps, OwnS itLay 92 w base p.sl p.xs
  out : ∀ p ∈ ps, Apart v p.sl
  pair : ∀ (i j : Nat) (p q : PgV), i ≠ j → ps[i]? = some p → ps[j]? = some q → Apart p.sl q.sl
theorem OwnP.frame {w : World} {base : Nat} {v : Value} {ps : List PgV} (h : OwnP w base v ps) : Frame base w.heap.size (fun w => OwnP w base v ps) := by
  intro w1 w2 ha k
  exact ⟨ownsRow_frame (fun g hg => World.ownsRow.lt h.row g hg) w1 w2 ha k.row, fun p hp => ownsRow_frame (fun g hg => World.ownsRow.lt (h.ent p hp) g hg) w1 w2 ha (k.ent p hp), k.out, k.pair⟩
theorem OwnP.below {w w' : World} {base : Nat} {v : Value} {ps : List PgV} (h : OwnP w base v ps) (hB : Below w.heap.size w w') : OwnP w' base v ps := h.frame.kept h hB (Nat.le_refl _)
theorem OwnP.mono {w : World} {base base' : Nat} {v : Value} {ps : List PgV} (h : OwnP w base' v ps) (hb : base ≤ base') : OwnP w base v ps := ⟨h.row.mono hb, fun p hp => (h.ent p hp).mono hb, h.out, h.pair⟩
theorem ownS_len {w : World} {base : Nat} {e : TypeId} {a : Option Addr} {n cap : Nat} {xs : List It} (h : OwnS itLay e w base (.slice a n cap) xs) : xs.length = n := by
  obtain ⟨a', c', hv, hr⟩ := h.rd
  simp only [Value.slice.injEq] at hv
  exact hv.2.1.symm
theorem ownP_len {w : World} {base : Nat} {a : Option Addr} {n cap : Nat} {ps : List PgV} (h : OwnP w base (.slice a n cap) ps) : ps.length = n := by
  obtain ⟨a', c', hv, hr⟩ := h.row.rd
  simp only [Value.slice.injEq] at hv
  exact hv.2.1.symm
theorem rdS_ownsP {w : World} {base : Nat} {e : TypeId} {a : Option Addr} {n cap : Nat} {xs : List It} (h : OwnS itLay e w base (.slice a n cap) xs) : RdS itLay w a n cap xs := by
  have := ownS_len h
  subst this
  exact rdS_owns h
theorem OwnP.rd {w : World} {base : Nat} {a : Option Addr} {n cap : Nat} {ps : List PgV} (h : OwnP w base (.slice a n cap) ps) : RdP w a n cap ps := by
  have hl := ownP_len h
  subst hl
  exact ⟨rdS_owns h.row, fun p hp => rdS_ownsP (h.ent p hp)⟩
theorem OwnP.shape {w : World} {base : Nat} {v : Value} {ps : List PgV} (h : OwnP w base v ps) : ∃ a c, v = .slice a ps.length c := by
  obtain ⟨a, c, e, _⟩ := h.row.rd
  exact ⟨a, c, e⟩
theorem ownP_none (w : World) (base : Nat) : OwnP w base (.slice none 0 0) [] := ⟨⟨rfl, .inl ⟨rfl, rfl⟩⟩, fun p hp => (by cases hp), fun p hp => (by cases hp), fun i j p q _ hp => (by simp at hp)⟩

/-- One page is written: its three cells, one by one. -/
theorem flat_setP (ps : List PgV) (k : Nat) (x : PgV) (hk : k < ps.length) :
    (((ps.flatMap pgLay.cells).set (k * 3) (.bool x.used)).set (k * 3 + 1) (.bool x.leaf)).set (k * 3 + 2) (.slice x.a x.n x.cap) = (ps.set k x).flatMap pgLay.cells := by
  induction ps generalizing k with
  | nil => simp at hk
  | cons y l ih =>
    cases k with
    | zero => simp [pgLay, List.flatMap_cons]
    | succ k =>
      have := ih k (by simpa using hk)
      simp only [List.flatMap_cons, List.set_cons_succ]
      rw [← this]
      have e : ∀ (j : Nat) (u : Value) (t : List Value), (pgLay.cells y ++ t).set ((k + 1) * 3 + j) u = pgLay.cells y ++ t.set (k * 3 + j) u := by
        intro j u t
        rw [List.set_append_right _ _ (by show 3 ≤ _; omega)]
        show pgLay.cells y ++ t.set ((k + 1) * 3 + j - 3) u = _
        rw [show (k + 1) * 3 + j - 3 = k * 3 + j by omega]
      have e0 := e 0
      simp only [Nat.add_zero] at e0
      rw [e0, e, e]
theorem apart_none (v : Value) (n c : Nat) : Apart v (.slice none n c) ∧ Apart (.slice none n c) v := ⟨fun g _ h => (by cases h), fun g h => (by cases h)⟩
/-- A page is written over another; its entries are new. -/
theorem OwnP.set {w w' : World} {base g n cap : Nat} {ps : List PgV} (h : OwnP w base (.slice (some ⟨g, 0, none⟩) n cap) ps) (k : Nat) (x : PgV) (hk : k < ps.length)
    (hw : w' = ((w.setCell ⟨g, k * 3, none⟩ (.bool x.used)).setCell ⟨g, k * 3 + 1, none⟩ (.bool x.leaf)).setCell ⟨g, k * 3 + 1 + 1, none⟩ (.slice x.a x.n x.cap))
    (hx : OwnS itLay 92 w base x.sl x.xs) (ho : Apart (.slice (some ⟨g, 0, none⟩) n cap) x.sl) (ha : ∀ i p, i ≠ k → ps[i]? = some p → Apart p.sl x.sl) : OwnP w' base (.slice (some ⟨g, 0, none⟩) n cap) (ps.set k x) := by
  have hl := ownP_len h
  subst hw
  have hG : w.grownBy _ (Value.slice (some ⟨g, 0, none⟩) n cap).ownBlock := grown_trans (grown_trans (grown_setCell (World.grownBy.refl w (some g)) g (k * 3) (.bool x.used) rfl) (grown_setCell (World.grownBy.refl _ (some g)) g (k * 3 + 1) (.bool x.leaf) rfl)) (grown_setCell (World.grownBy.refl _ (some g)) g (k * 3 + 1 + 1) (.slice x.a x.n x.cap) rfl)
  refine ⟨?_, fun p hp => ?_, fun p hp => ?_, fun i j p q hij hp hq => ?_⟩
  · have hr := h.row
    unfold OwnS at hr ⊢
    rw [List.length_set, ← flat_setP ps k x hk]
    rw [hl] at hr ⊢
    exact (((hr.stored (k * 3) _).1.stored (k * 3 + 1) _).1.stored (k * 3 + 1 + 1) _).1
  · rcases List.mem_or_eq_of_mem_set hp with h1 | rfl
    · exact (h.ent p h1).keptApart hG (h.out p h1).symm
    · exact hx.keptApart hG ho.symm
  · rcases List.mem_or_eq_of_mem_set hp with h1 | rfl
    · exact h.out p h1
    · exact ho
  · rw [List.getElem?_set] at hp hq
    split at hp
    · rename_i e
      subst e
      rw [if_neg hij] at hq
      obtain rfl := Option.some.inj hp
      exact (ha j q (Ne.symm hij) hq).symm
    · rename_i e
      split at hq
      · rename_i e2
        subst e2
        obtain rfl := Option.some.inj hq
        exact ha i p (Ne.symm e) hp
      · exact h.pair i j p q hij hp hq
/-- A page's cells in a row that is owned, and its marks. -/
theorem ownP_at {w : World} {base g n cap i : Nat} {ps : List PgV} (h : OwnP w base (.slice (some ⟨g, 0, none⟩) n cap) ps) (hi : i < n) :
    ∃ p, ps[i]? = some p ∧ w.cell? ⟨g, i * 3, none⟩ = some (.bool p.used) ∧ w.cell? ⟨g, i * 3 + 1, none⟩ = some (.bool p.leaf) ∧ w.cell? ⟨g, i * 3 + 1 + 1, none⟩ = some (.slice p.a p.n p.cap) := by
  obtain ⟨b, off, p, e, _, hp, _, d0, d1, d2⟩ := rdP_at h.rd hi
  obtain ⟨rfl, rfl⟩ : g = b ∧ 0 = off := by simpa using e
  simp only [Nat.zero_add] at d0 d1 d2
  exact ⟨p, hp, d0, d1, d2⟩
theorem OwnP.froz {w : World} {base g n cap : Nat} {ps : List PgV} (h : OwnP w base (.slice (some ⟨g, 0, none⟩) n cap) ps) (j : Nat) : w.frozen? ⟨g, j, none⟩ = false := by
  have := h.row
  unfold OwnS at this
  rw [ownP_len h] at this
  exact World.ownsRow.frozenAt this j
theorem OwnP.lt {w : World} {base g n cap : Nat} {ps : List PgV} (h : OwnP w base (.slice (some ⟨g, 0, none⟩) n cap) ps) : base ≤ g ∧ g < w.heap.size := World.ownsRow.lt h.row g rfl

/-- A book in new memory: its pages are owned. -/
def NewBook (root : Int) (out : List Pg) (w : World) (e : Ending) (w' : World) : Prop :=
  ∃ v ps, e = .returned (.agg #[.int .i64 root, v]) ∧ ps.map PgV.pg = out ∧ OwnP w' w.heap.size v ps ∧ Below w.heap.size w w'
end Go.Proofs.Ytfefggcfeppeiaa

/- The laws' own helpers on books: how large, a copy, equality. -/
namespace Go.Proofs.Ytfefggcfeppeiaa
open Go.RowKit

def totP (ps : List PgV) : Nat := (ps.map (fun p => p.n)).sum
theorem totP_more {ps : List PgV} {k : Nat} {p : PgV} (h : ps[k]? = some p) : totP (ps.take (k + 1)) = totP (ps.take k) + p.n := by
  unfold totP
  rw [List.take_add_one, h, List.map_append, List.sum_append]
  simp

set_option maxRecDepth 100000 in
set_option maxHeartbeats 400000 in
theorem szPage_any (u b : Bool) (a : Option Addr) (n cap : Nat) (left : Int) (w : World) (hn : n ≤ maxLen) (hl : 0 ≤ left ∧ left ≤ 1048576) :
    Calls Try.prog 97 #[.agg #[.bool u, .bool b, .slice a n cap], .int .i64 left] w fun e w' => e = .returned (.int .i64 (if left - n < 0 then -1 else left - n)) ∧ Below w.heap.size w w' := by
  have B0 := new_below w (.cells #[.bool u, .bool b, .slice a n cap] 125)
  have C := Lib.hid (fun W : World => szNode_any b a n cap left W hn hl)
  by_cases h : left - n < 0
  · rw [if_pos h] at C ⊢
    go_enter Try.func97, Try.ntmps97
    go_wp2_with fail
    refine (C.out _).mono ?_
    rintro e w1 ⟨rfl, b1⟩
    replace B0 := B0.trans (b1.mono B0.size)
    clear b1
    go_wp2
    go_ret
    exact ⟨rfl, B0⟩
  · rw [if_neg h] at C ⊢
    have h2 : ¬ left - (n : Int) < 0 := h
    go_enter Try.func97, Try.ntmps97
    go_wp2_with fail
    refine (C.out _).mono ?_
    rintro e w1 ⟨rfl, b1⟩
    replace B0 := B0.trans (b1.mono B0.size)
    clear b1
    go_wp2
    go_ret
    exact ⟨rfl, B0⟩

/-- What is left, or less than nothing. -/
def LeftP (n t : Nat) (left : Int) (w : World) (e : Ending) (w' : World) : Prop := ∃ r : Int, e = .returned (.int .i64 r) ∧ (r < 0 ∨ (0 ≤ r ∧ r + n + t = left)) ∧ Below w.heap.size w w'

set_option maxRecDepth 100000 in
set_option maxHeartbeats 800000 in
theorem szPageS_any (a : Option Addr) (n cap : Nat) (ps : List PgV) (left : Int) (w : World) (h : RdP w a n cap ps) (hl : 0 ≤ left ∧ left ≤ 1048576) :
    Calls Try.prog 71 #[.slice a n cap, .int .i64 left] w (LeftP n (totP ps) left w) := by
  have hnc := h.1.1.2.1
  have hm := h.1.1.2.2.1
  unfold maxLen at hm
  have HR := Lib.hid h
  have HL := Lib.hid h.1.1.1
  clear h
  by_cases h0 : left - n < 0
  · go_enter Try.func71, Try.ntmps71
    go_wp2
    go_ret
    exact ⟨-1, rfl, .inl (by decide), Below.refl _ _⟩
  · go_enter Try.func71, Try.ntmps71
    go_wp2
    go_loopw [1, 5] (fun l i wr => ∃ (k : Nat) (r : Int), k ≤ n ∧ i = .int .i64 (k : Int) ∧ l = .int .i64 r ∧ 0 ≤ r ∧ Hid (r + n + totP (ps.take k) = left) ∧ Below w.heap.size w wr) (fun _ i _ => n - (intOf i).toNat)
    case atStart => exact ⟨0, left - n, Nat.zero_le _, rfl, rfl, by omega, Lib.hid (by simp [totP]), Below.refl _ _⟩
    case round =>
      obtain ⟨k, r, hk, rfl, rfl, hr0, HT, hB⟩ := hrel
      by_cases hlt : k < n
      · obtain ⟨b, off, p, rfl, hbl, hp, hrd, d0, d1, d2⟩ := rdP_at (HR.out.below hB) hlt
        have HP := Lib.hid hp
        have z0 : (0 : Int) ≤ k := by omega
        have z1 : (k : Int) < n := by omega
        have hpm : p.n ≤ maxLen := Nat.le_trans hrd.1.2.1 hrd.1.2.2.1
        have hrl : r ≤ 1048576 := by have := HT.out; omega
        have C := szPage_any p.used p.leaf p.a p.n p.cap r wr hpm ⟨hr0, hrl⟩
        clear hp hrd hpm
        by_cases h1 : r - p.n < 0
        · rw [if_pos h1] at C
          replace C := Lib.hid C
          clear h1
          go_wp2_with fail
          refine C.out.mono ?_
          rintro e w1 ⟨rfl, b1⟩
          replace hB := hB.trans (b1.mono hB.size)
          clear b1
          go_wp2
          go_ret
          exact ⟨-1, rfl, .inl (by decide), hB⟩
        · rw [if_neg h1] at C
          replace C := Lib.hid C
          have h2 : ¬ r - (p.n : Int) < 0 := h1
          have HT2 : Hid ((r - p.n) + n + totP (ps.take (k + 1)) = left) := by
            show _ = _
            have := HT.out
            rw [totP_more HP.out]
            omega
          go_wp2_with fail
          refine C.out.mono ?_
          rintro e w1 ⟨rfl, b1⟩
          replace hB := hB.trans (b1.mono hB.size)
          clear b1
          go_wp2
          go_roundw
          case rel => exact ⟨k + 1, r - p.n, by omega, by go_num, rfl, by omega, HT2, hB⟩
          case measure => simp [intOf]; omega
      · have HE : Hid (r + n + totP ps = left) := by
          have := HT.out
          rw [List.take_of_length_le (by rw [HL.out]; omega)] at this
          exact Lib.hid this
        go_wp2
        go_ret
        exact ⟨r, rfl, .inr ⟨hr0, HE.out⟩, hB⟩

set_option maxRecDepth 100000 in
set_option maxHeartbeats 400000 in
theorem szBook_any (root : Int) (a : Option Addr) (n cap : Nat) (ps : List PgV) (left : Int) (w : World) (h : RdP w a n cap ps) (hl : 0 ≤ left ∧ left ≤ 1048576) :
    Calls Try.prog 29 #[.agg #[.int .i64 root, .slice a n cap], .int .i64 left] w (LeftP n (totP ps) left w) := by
  have B0 := new_below w (.cells #[.int .i64 root, .slice a n cap] 51)
  have C := Lib.hid (szPageS_any a n cap ps left _ (h.below B0) hl)
  clear h
  go_enter Try.func29, Try.ntmps29
  go_wp2_with fail
  refine C.out.mono ?_
  rintro e w1 ⟨r, rfl, hr, b1⟩
  replace B0 := B0.trans (b1.mono B0.size)
  clear b1
  by_cases h0 : r < 0
  · go_wp2
    go_ret
    exact ⟨-1, rfl, .inl (by decide), B0⟩
  · go_wp2
    go_ret
    exact ⟨r, rfl, .inr (by omega), B0⟩

set_option maxRecDepth 100000 in
set_option maxHeartbeats 800000 in
theorem toPage_any (u b : Bool) (a : Option Addr) (n cap : Nat) (xs : List It) (w : World) (h : RdS itLay w a n cap xs) (hn : n ≤ 4398046511104) :
    Calls Try.prog 98 #[.agg #[.bool u, .bool b, .slice a n cap]] w fun e w' => ∃ v, e = .returned (.agg #[.bool u, .bool b, v]) ∧ OwnS itLay 92 w' w.heap.size v xs ∧ Below w.heap.size w w' := by
  have K := blk_alloc (.cells #[.bool u, .bool false, .slice none 0 0] 48) (by simp) _ _ (blk_new1 w (.cells #[.bool u, .bool b, .slice a n cap] 125) #[.bool false, .bool false, .slice none 0 0] 48)
  have J := blk_new2 w (.cells #[.bool u, .bool b, .slice a n cap] 125) (.cells #[.bool false, .bool false, .slice none 0 0] 48) #[.bool u, .bool false, .slice none 0 0] 48
  have B0 : Below w.heap.size w (((w.alloc (.cells #[.bool u, .bool b, .slice a n cap] 125)).alloc (.cells #[.bool false, .bool false, .slice none 0 0] 48)).alloc (.cells #[.bool u, .bool false, .slice none 0 0] 48)) := (((Below.refl _ _).alloc (Nat.le_refl _) _).alloc (by simp) _).alloc (by simp; omega) _
  replace K := Lib.hid K
  replace J := Lib.hid J
  have C := Lib.hid (toNode_any b a n cap xs _ (h.below B0) hn)
  go_enter Try.func98, Try.ntmps98
  go_wp2_with fail
  refine C.out.mono ?_
  rintro e w1 ⟨v, rfl, ho, hb⟩
  obtain ⟨av, cv, rfl, -⟩ := ho.rd
  have s1 := hb.size
  simp at s1
  obtain ⟨k0, f0⟩ := below_keep hb (by simp) _ _ K.out
  obtain ⟨j0, g0⟩ := below_keep hb (by simp) _ _ J.out
  have HO := Lib.hid ho
  have B := Lib.hid (B0.trans (hb.mono (by simp; omega)))
  clear ho hb B0 h C
  have hne : w.heap.size + 1 ≠ w.heap.size + 1 + 1 := by omega
  go_wp2
  refine bodyPost_ret (v := .agg #[.bool u, .bool b, .slice av xs.length cv]) (by simp [results, Try.results98, go_sem, k0]) rfl ⟨_, rfl, ?_, ?_⟩
  · have hap : ∀ j, (Value.slice av xs.length cv).ownBlock = some j → w.heap.size + 1 + 1 + 1 ≤ j := fun j hj => by have := (HO.out.lt j hj).1; simpa using this
    have O := HO.out
    simp only [size_alloc3] at O
    refine OwnS.mono (L := itLay) (base' := w.heap.size + 1 + 1 + 1) ?_ (by omega)
    refine ownS_set (ownS_set (ownS_set (ownS_set (ownS_set O ?_ _ _) ?_ _ _) ?_ _ _) ?_ _ _) ?_ _ _ <;> (intro hj; have := hap _ hj; omega)
  · exact ((((B.out.setCell (p := ⟨w.heap.size + 1 + 1, 1, none⟩) (show w.heap.size ≤ w.heap.size + 1 + 1 by omega) _).setCell (p := ⟨w.heap.size + 1 + 1, 2, none⟩) (show w.heap.size ≤ w.heap.size + 1 + 1 by omega) _).setCell (p := ⟨w.heap.size + 1, 0, none⟩) (show w.heap.size ≤ w.heap.size + 1 by omega) _).setCell (p := ⟨w.heap.size + 1, 1, none⟩) (show w.heap.size ≤ w.heap.size + 1 by omega) _).setCell (p := ⟨w.heap.size + 1, 2, none⟩) (show w.heap.size ≤ w.heap.size + 1 by omega) _
end Go.Proofs.Ytfefggcfeppeiaa

/- The laws' own helpers on books: a copy of all pages; equality. -/
namespace Go.Proofs.Ytfefggcfeppeiaa
open Go.RowKit

theorem Try.infoPage : (Try.prog.info? 48).map (fun i => (i.zero, i.size, i.bytes)) = some (some (.agg #[.bool false, .bool false, .slice none 0 0]), 3, 40) := by kernel_rfl
theorem madeP (n : Nat) : (madeCells #[Value.bool false, .bool false, .slice none 0 0] (n * 3)).toList = (List.replicate n zeroPgV).flatMap pgLay.cells := by
  apply List.ext_getElem?
  intro j
  have hr := Nat.div_add_mod j 3
  have hlt := Nat.mod_lt j (show 0 < 3 by omega)
  have hf := flat_at pgLay (List.replicate n zeroPgV) (j / 3) (j % 3) hlt
  rw [show j / 3 * pgLay.sz + j % 3 = j by show j / 3 * 3 + j % 3 = j; omega] at hf
  rw [hf]
  by_cases hj : j < n * 3
  · have h4 : j / 3 < n := by omega
    rw [List.getElem?_replicate, if_pos h4]
    simp only [Option.bind_some]
    rcases (by omega : j % 3 = 0 ∨ j % 3 = 1 ∨ j % 3 = 2) with h | h | h <;> simp [madeCells, hj, h, pgLay, zeroPgV]
  · have h4 : ¬ j / 3 < n := by omega
    rw [List.getElem?_replicate, if_neg h4]
    simp [madeCells, hj]
theorem pg_take {ps qs : List PgV} {k : Nat} {p q : PgV} (hp : ps[k]? = some p) (h : (qs.take k).map PgV.pg = (ps.take k).map PgV.pg) (hk : k < qs.length) (e : q.pg = p.pg) : ((qs.set k q).take (k + 1)).map PgV.pg = (ps.take (k + 1)).map PgV.pg := by
  have hs : (qs.set k q)[k]? = some q := by simp [hk]
  rw [List.take_add_one, hs, List.take_add_one, hp, List.map_append, List.map_append, List.take_set_of_le (Nat.le_refl _), h]
  simp [e]

set_option maxRecDepth 100000 in
set_option maxHeartbeats 1600000 in
/-- laws.toPageS: a copy of all pages, each with its entries, in new memory. -/
theorem toPageS_any (a : Option Addr) (n cap : Nat) (ps : List PgV) (w : World) (h : RdP w a n cap ps) (hn : n ≤ 4398046511104) (hps : ∀ p ∈ ps, p.n ≤ 4398046511104) :
    Calls Try.prog 73 #[.slice a n cap] w fun e w' => ∃ v qs, e = .returned v ∧ qs.map PgV.pg = ps.map PgV.pg ∧ OwnP w' w.heap.size v qs ∧ Below w.heap.size w w' := by
  obtain ⟨i0, hi, hz0, hz1, hz2⟩ := info_parts Try.infoPage
  have HR := Lib.hid h
  have HL := Lib.hid h.1.1.1
  have HN := Lib.hid hps
  clear h hps
  replace hi := Lib.hid hi
  replace hz0 := Lib.hid hz0
  replace hz1 := Lib.hid hz1
  replace hz2 := Lib.hid hz2
  have hnc := HR.out.1.1.2.1
  go_enter Try.func73, Try.ntmps73
  go_wp2_with (at_make; refine wpList_make_full _ rfl _ _ 24 rfl w.heap.size 48 i0 (.agg #[.bool false, .bool false, .slice none 0 0]) 3 Try.underlying24 hi.out hz0.out hz1.out .i64 .i64 (n : Int) (n : Int) n rfl rfl rfl rfl ?_ ?_ ?_ ?_)
  case refine_1 => rw [hz2.out]; omega
  case refine_2 => unfold maxLen; omega
  case refine_3 => exact Nat.le_refl _
  intro w1 hown hgrow
  have hb := Lib.hid (grownNone_below hgrow)
  clear hgrow
  rw [madeP] at hown
  have O1 : Hid (OwnP w1 w.heap.size (.slice (some ⟨w.heap.size, 0, none⟩) n n) (List.replicate n zeroPgV)) := by
    refine Lib.hid ⟨?_, fun p hp => ?_, fun p hp => ?_, fun i j p q _ hp _ => ?_⟩
    · unfold OwnS
      rw [List.length_replicate]
      exact hown
    · obtain ⟨_, rfl⟩ := List.mem_replicate.1 hp
      exact ownS_none _ _ _
    · obtain ⟨_, rfl⟩ := List.mem_replicate.1 hp
      exact (apart_none _ 0 0).1
    · obtain ⟨_, rfl⟩ := List.mem_replicate.1 (List.mem_of_getElem? hp)
      exact (apart_none _ 0 0).2
  clear hown
  go_wp2
  go_loopw [4] (fun i wr => ∃ (k : Nat) (qs : List PgV), k ≤ n ∧ i = .int .i64 (k : Int) ∧ Hid (OwnP wr w.heap.size (.slice (some ⟨w.heap.size, 0, none⟩) n n) qs) ∧ Hid ((qs.take k).map PgV.pg = (ps.take k).map PgV.pg) ∧ Below w.heap.size w wr) (fun i _ => n - (intOf i).toNat)
  case atStart => exact ⟨0, _, Nat.zero_le _, rfl, O1, Lib.hid (by simp), hb.out⟩
  case round =>
    clear O1 hb
    obtain ⟨k, qs, hk, rfl, HO, HT, hB⟩ := hrel
    have HQ := Lib.hid (ownP_len HO.out)
    by_cases hlt : k < n
    · obtain ⟨b, off, p, rfl, hbl, hp, hrd, d0, d1, d2⟩ := rdP_at (HR.out.below hB) hlt
      have HP := Lib.hid hp
      have hpn := HN.out p (List.mem_of_getElem? hp)
      have C := Lib.hid (toPage_any p.used p.leaf p.a p.n p.cap p.xs wr hrd hpn)
      have hlp := Lib.hid hrd.1.1
      have z0 : (0 : Int) ≤ k := by omega
      have z1 : (k : Int) < n := by omega
      clear hp hrd hpn
      go_wp2_with fail
      refine C.out.mono ?_
      rintro e w2 ⟨v, rfl, ho, hj⟩
      obtain ⟨av, cv, rfl, -⟩ := ho.rd
      have HE := Lib.hid ho
      have HO2 := Lib.hid (HO.out.below hj)
      have hB2 := hB.trans (hj.mono hB.size)
      obtain ⟨y, hy, e0, e1, e2⟩ := ownP_at HO2.out hlt
      have hfz := HO2.out.froz
      have hbl2 := HO2.out.lt.2
      have hgr : w.heap.size < wr.heap.size := HO.out.lt.2
      have S3 : Hid (OwnP (((w2.setCell ⟨w.heap.size, k * 3, none⟩ (.bool p.used)).setCell ⟨w.heap.size, k * 3 + 1, none⟩ (.bool p.leaf)).setCell ⟨w.heap.size, k * 3 + 1 + 1, none⟩ (.slice av p.xs.length cv)) w.heap.size (.slice (some ⟨w.heap.size, 0, none⟩) n n) (qs.set k ⟨p.used, p.leaf, av, p.xs.length, cv, p.xs⟩)) := by
        refine Lib.hid (HO2.out.set k ⟨p.used, p.leaf, av, p.xs.length, cv, p.xs⟩ (by rw [HQ.out]; exact hlt) rfl (HE.out.mono (Nat.le_of_lt hgr)) (fun g hg hg' => ?_) (fun i q hi hq g hg hg' => ?_))
        · have h1 := (World.ownsRow.lt HE.out g hg').1
          have e : w.heap.size = g := by simpa [Value.ownBlock] using hg
          omega
        · have h1 := (World.ownsRow.lt HE.out g hg').1
          have h2 := (World.ownsRow.lt (HO.out.ent q (List.mem_of_getElem? hq)) g hg).2
          omega
      have HT2 : Hid (((qs.set k ⟨p.used, p.leaf, av, p.xs.length, cv, p.xs⟩).take (k + 1)).map PgV.pg = (ps.take (k + 1)).map PgV.pg) := Lib.hid (pg_take HP.out HT.out (by rw [HQ.out]; exact hlt) rfl)
      clear ho hj hy
      go_wp2
      go_roundw
      case rel => exact ⟨k + 1, _, by omega, by go_num, S3, HT2, ((hB2.setCell (p := ⟨w.heap.size, k * 3, none⟩) (Nat.le_refl _) _).setCell (p := ⟨w.heap.size, k * 3 + 1, none⟩) (Nat.le_refl _) _).setCell (p := ⟨w.heap.size, k * 3 + 1 + 1, none⟩) (Nat.le_refl _) _⟩
      case measure => simp [intOf]; omega
    · have HF : Hid (qs.map PgV.pg = ps.map PgV.pg) := by
        have := HT.out
        rw [List.take_of_length_le (by rw [HQ.out]; omega), List.take_of_length_le (by rw [HL.out]; omega)] at this
        exact Lib.hid this
      go_wp2
      go_ret
      exact ⟨_, qs, rfl, HF.out, HO.out, hB⟩

set_option maxRecDepth 100000 in
set_option maxHeartbeats 800000 in
/-- laws.toBook: a copy in new memory. -/
theorem toBook_any (root : Int) (a : Option Addr) (n cap : Nat) (ps : List PgV) (w : World) (h : RdP w a n cap ps) (hn : n ≤ 4398046511104) (hps : ∀ p ∈ ps, p.n ≤ 4398046511104) :
    Calls Try.prog 31 #[.agg #[.int .i64 root, .slice a n cap]] w (NewBook root (ps.map PgV.pg) w) := by
  have K := blk_alloc (.cells #[.int .i64 root, .slice none 0 0] 26) (by simp) _ _ (blk_new1 w (.cells #[.int .i64 root, .slice a n cap] 51) #[.int .i64 0, .slice none 0 0] 26)
  have J := blk_new2 w (.cells #[.int .i64 root, .slice a n cap] 51) (.cells #[.int .i64 0, .slice none 0 0] 26) #[.int .i64 root, .slice none 0 0] 26
  have B0 : Below w.heap.size w (((w.alloc (.cells #[.int .i64 root, .slice a n cap] 51)).alloc (.cells #[.int .i64 0, .slice none 0 0] 26)).alloc (.cells #[.int .i64 root, .slice none 0 0] 26)) := (((Below.refl _ _).alloc (Nat.le_refl _) _).alloc (by simp) _).alloc (by simp; omega) _
  replace K := Lib.hid K
  replace J := Lib.hid J
  have C := Lib.hid (toPageS_any a n cap ps _ (h.below B0) hn hps)
  go_enter Try.func31, Try.ntmps31
  go_wp2_with fail
  refine C.out.mono ?_
  rintro e w1 ⟨v, qs, rfl, hq, ho, hb⟩
  obtain ⟨av, cv, rfl⟩ := ho.shape
  have s1 := hb.size
  simp at s1
  obtain ⟨k0, f0⟩ := below_keep hb (by simp) _ _ K.out
  obtain ⟨j0, g0⟩ := below_keep hb (by simp) _ _ J.out
  have F := Lib.hid ho.frame
  have HO := Lib.hid ho
  have HQ := Lib.hid hq
  have B := Lib.hid (B0.trans (hb.mono (by simp; omega)))
  clear ho hb B0 h C hq hps
  have hne : w.heap.size + 1 ≠ w.heap.size + 1 + 1 := by omega
  go_wp2
  refine bodyPost_ret (v := .agg #[.int .i64 root, .slice av qs.length cv]) (by simp [results, Try.results31, go_sem, k0]) rfl ⟨_, qs, rfl, HQ.out, ?_, ?_⟩
  · refine OwnP.mono (base' := w.heap.size + 1 + 1 + 1) ?_ (by omega)
    have O := HO.out
    have F2 := F.out
    simp only [size_alloc3] at O F2
    refine F2 _ _ (fun k h1 h2 => ?_) O
    rw [Below.heap_setCell _ _ _ _ (by intro e; simp at e; omega), Below.heap_setCell _ _ _ _ (by intro e; simp at e; omega), Below.heap_setCell _ _ _ _ (by intro e; simp at e; omega)]
  · exact ((B.out.setCell (p := ⟨w.heap.size + 1 + 1, 1, none⟩) (show w.heap.size ≤ w.heap.size + 1 + 1 by omega) _).setCell (p := ⟨w.heap.size + 1, 0, none⟩) (show w.heap.size ≤ w.heap.size + 1 by omega) _).setCell (p := ⟨w.heap.size + 1, 1, none⟩) (show w.heap.size ≤ w.heap.size + 1 by omega) _

set_option maxRecDepth 100000 in
set_option maxHeartbeats 800000 in
theorem eqPage_same (u c : Bool) (a b : Option Addr) (n c1 c2 : Nat) (xs : List It) (w : World) (h : RdS itLay w a n c1 xs) (h' : RdS itLay w b n c2 xs) (hn : n ≤ 4398046511104) :
    Calls Try.prog 100 #[.agg #[.bool u, .bool c, .slice a n c1], .agg #[.bool u, .bool c, .slice b n c2]] w fun e w' => e = .returned (.bool true) ∧ Below w.heap.size w w' := by
  have B0 : Below w.heap.size w ((w.alloc (.cells #[.bool u, .bool c, .slice a n c1] 48)).alloc (.cells #[.bool u, .bool c, .slice b n c2] 48)) := ((Below.refl _ _).alloc (Nat.le_refl _) _).alloc (by simp) _
  have C := Lib.hid (eqNode_same c a b n c1 c2 xs _ (h.below B0) (h'.below B0) hn)
  go_enter Try.func100, Try.ntmps100
  go_wp2_with fail
  refine C.out.mono ?_
  rintro e w1 ⟨rfl, hb⟩
  replace hb := B0.trans (hb.mono B0.size)
  clear B0
  go_wp2
  go_ret
  exact ⟨rfl, hb⟩
theorem pg_at {ps qs : List PgV} (h : ps.map PgV.pg = qs.map PgV.pg) {k : Nat} {p q : PgV} (hp : ps[k]? = some p) (hq : qs[k]? = some q) : p.used = q.used ∧ p.leaf = q.leaf ∧ p.xs = q.xs := by
  have h1 : (ps.map PgV.pg)[k]? = some p.pg := by rw [List.getElem?_map, hp]; rfl
  have h2 : (qs.map PgV.pg)[k]? = some q.pg := by rw [List.getElem?_map, hq]; rfl
  rw [h, h2] at h1
  have := Option.some.inj h1
  unfold PgV.pg at this
  simp only [Pg.mk.injEq] at this
  exact ⟨this.1.symm, this.2.1.symm, this.2.2.symm⟩

set_option maxRecDepth 100000 in
set_option maxHeartbeats 1600000 in
theorem eqPageS_same (a b : Option Addr) (n m c1 c2 : Nat) (ps qs : List PgV) (w : World) (h : RdP w a n c1 ps) (h' : RdP w b m c2 qs) (hpq : ps.map PgV.pg = qs.map PgV.pg) (hn : n ≤ 4398046511104) (hps : ∀ p ∈ ps, p.n ≤ 4398046511104) :
    Calls Try.prog 77 #[.slice a n c1, .slice b m c2] w fun e w' => e = .returned (.bool true) ∧ Below w.heap.size w w' := by
  have hnm : m = n := by
    have := congrArg List.length hpq
    rw [List.length_map, List.length_map, h.1.1.1, h'.1.1.1] at this
    exact this.symm
  subst hnm
  have HR := Lib.hid h
  have HR' := Lib.hid h'
  have HP := Lib.hid hpq
  have HN := Lib.hid hps
  have hnc := h.1.1.2.1
  have hnc' := h'.1.1.2.1
  clear h h' hpq hps
  go_enter Try.func77, Try.ntmps77
  go_wp2
  go_loopw [5] (fun i wr => ∃ k : Nat, k ≤ m ∧ i = .int .i64 (k : Int) ∧ Below w.heap.size w wr) (fun i _ => m - (intOf i).toNat)
  case atStart => exact ⟨0, Nat.zero_le _, rfl, Below.refl _ _⟩
  case round =>
    obtain ⟨k, hk, rfl, hB⟩ := hrel
    by_cases hlt : k < m
    · obtain ⟨x, off, p, rfl, hbl, hp, hrd, d0, d1, d2⟩ := rdP_at (HR.out.below hB) hlt
      obtain ⟨x', off', q, rfl, hbl', hq, hrd', e0, e1, e2⟩ := rdP_at (HR'.out.below hB) hlt
      obtain ⟨u1, u2, u3⟩ := pg_at HP.out hp hq
      have hpn := HN.out p (List.mem_of_getElem? hp)
      have hnn : p.n = q.n := by rw [← hrd.1.1, ← hrd'.1.1, u3]
      rw [← u1] at e0
      rw [← u2] at e1
      rw [← hnn] at e2 hrd'
      rw [← u3] at hrd'
      have R1 := Lib.hid hrd
      have R2 := Lib.hid hrd'
      have z0 : (0 : Int) ≤ k := by omega
      have z1 : (k : Int) < m := by omega
      clear hp hq hrd hrd' u1 u2 u3 hnn
      go_wp2
      go_region_with ((with_reducible refine (eqPage_same p.used p.leaf p.a q.a p.n p.cap q.cap p.xs _ (R1.out.below (drew_below _)) (R2.out.below (drew_below _)) hpn).mono ?_); rintro e w1 ⟨rfl, hj⟩)
      all_goals
        go_wp2
        go_roundw
        case rel => exact ⟨k + 1, by omega, by go_num, hB.drew.trans (hj.mono hB.size)⟩
        case measure => simp [intOf]; omega
    · go_wp2
      go_ret
      exact ⟨rfl, hB⟩

set_option maxRecDepth 100000 in
set_option maxHeartbeats 400000 in
theorem eqBook_same (root : Int) (a b : Option Addr) (n m c1 c2 : Nat) (ps qs : List PgV) (w : World) (h : RdP w a n c1 ps) (h' : RdP w b m c2 qs) (hpq : ps.map PgV.pg = qs.map PgV.pg) (hn : n ≤ 4398046511104) (hps : ∀ p ∈ ps, p.n ≤ 4398046511104) :
    Calls Try.prog 34 #[.agg #[.int .i64 root, .slice a n c1], .agg #[.int .i64 root, .slice b m c2]] w fun e w' => e = .returned (.bool true) ∧ Below w.heap.size w w' := by
  have B0 : Below w.heap.size w ((w.alloc (.cells #[.int .i64 root, .slice a n c1] 26)).alloc (.cells #[.int .i64 root, .slice b m c2] 26)) := ((Below.refl _ _).alloc (Nat.le_refl _) _).alloc (by simp) _
  have C := Lib.hid (eqPageS_same a b n m c1 c2 ps qs _ (h.below B0) (h'.below B0) hpq hn hps)
  go_enter Try.func34, Try.ntmps34
  go_wp2_with fail
  refine C.out.mono ?_
  rintro e w1 ⟨rfl, hb⟩
  replace hb := B0.trans (hb.mono B0.size)
  clear B0
  go_wp2
  go_ret
  exact ⟨rfl, hb⟩
end Go.Proofs.Ytfefggcfeppeiaa

/- Locals' blocks. -/
namespace Go.Proofs.Ytfefggcfeppeiaa
open Go.RowKit

/-- A local's block: there, with these cells, not frozen. -/
def Loc (W : World) (q : Nat) (cs : Array Value) : Prop := q < W.heap.size ∧ (∀ o, W.cell? ⟨q, o, none⟩ = cs[o]?) ∧ (∀ o, W.frozen? ⟨q, o, none⟩ = false)
theorem Loc.new (W : World) (cs : Array Value) (t : TypeId) : Loc (W.alloc (.cells cs t)) W.heap.size cs := ⟨by simp, (blk_new W cs t).1, (blk_new W cs t).2⟩
theorem Loc.of {W W' : World} {q : Nat} {cs : Array Value} (h : Loc W q cs) (hs : W.heap.size ≤ W'.heap.size) (hb : W'.heap[q]? = W.heap[q]?) : Loc W' q cs :=
  ⟨Nat.lt_of_lt_of_le h.1 hs, fun o => (cell_of_heap hb o).trans (h.2.1 o), fun o => (frozen_of_heap hb o).trans (h.2.2 o)⟩
theorem Loc.below {W W' : World} {q : Nat} {cs : Array Value} (h : Loc W q cs) (hb : Below W.heap.size W W') : Loc W' q cs := h.of hb.size (hb.block q h.1)
theorem Loc.alloc {W : World} {q : Nat} {cs : Array Value} (h : Loc W q cs) (O : Obj) : Loc (W.alloc O) q cs := h.below (new_below W O)
theorem Loc.grown {W W' : World} {q : Nat} {cs : Array Value} {row : Option Nat} (h : Loc W q cs) (hg : W.grownBy W' row) (hne : ∀ k, row = some k → k ≠ q) : Loc W' q cs :=
  h.of hg.size (hg.block q h.1 (fun e => hne q e.symm rfl))
theorem Loc.far {W W' : World} {q g : Nat} {cs : Array Value} (h : Loc W q cs) (hg : W.grownBy W' (some g)) (hlt : g < q) : Loc W' q cs := h.grown hg (fun k hk => by cases hk; omega)
/-- A cell of a local is written. -/
theorem Loc.set {W : World} {q : Nat} {cs : Array Value} (h : Loc W q cs) (j : Nat) (u : Value) (hj : j < cs.size) : Loc (W.setCell ⟨q, j, none⟩ u) q (cs.setIfInBounds j u) := by
  refine ⟨by simpa using h.1, fun o => ?_, fun o => (World.frozen?_setCell _ _ _ _).trans (h.2.2 o)⟩
  by_cases e : o = j
  · subst e
    rw [World.cell?_setCell_same' _ _ _ (by rw [h.2.1 o]; simp [hj])]
    simp [hj]
  · rw [World.cell?_setCell_other _ _ _ _ (by intro h; simp only [Addr.mk.injEq] at h; exact e h.2.1.symm), h.2.1 o]
    simp [Ne.symm e]
theorem Loc.other {W : World} {q p : Nat} {cs : Array Value} (h : Loc W q cs) (j : Nat) (u : Value) (hp : p ≠ q) : Loc (W.setCell ⟨p, j, none⟩ u) q cs := h.of (by simp) (Below.heap_setCell _ _ _ _ (fun e => hp e.symm))
theorem Loc.drew {W : World} {q : Nat} {cs : Array Value} (h : Loc W q cs) : Loc W.drew q cs := h.of (Nat.le_refl _) rfl
theorem ownS_set2 {w : World} {e : TypeId} {base g : Nat} {v : Value} {xs : List It} (h : OwnS itLay e w base v xs) (hg : g < base) (j : Nat) (u : Value) : OwnS itLay e (w.setCell ⟨g, j, none⟩ u) base v xs :=
  ownS_set h (fun hj => by have := (World.ownsRow.lt h g hj).1; omega) j u
end Go.Proofs.Ytfefggcfeppeiaa

/- The model's copy of a node. -/
namespace Go.Proofs.Ytfefggcfeppeiaa
open Go.RowKit

set_option maxHeartbeats 3200000 in
set_option maxRecDepth 100000 in
theorem l5Copy_any (b : Bool) (a : Option Addr) (n cap : Nat) (xs : List It) (w : World) (h : RdS itLay w a n cap xs) (hn : n ≤ 1099511627776) :
    Calls Try.prog 68 #[.agg #[.bool b, .slice a n cap]] w (NewNode b xs w) := by
  obtain ⟨i0, hi, hz0, hz1, hz2⟩ := info_parts Try.infoEntry
  replace hi := Lib.hid hi
  replace hz0 := Lib.hid hz0
  replace hz1 := Lib.hid hz1
  replace hz2 := Lib.hid hz2
  obtain ⟨W0, hW0⟩ : ∃ W0, W0 = (w.alloc (.cells #[.bool b, .slice a n cap] 32)).alloc (.cells #[.bool false, .slice none 0 0] 32) := ⟨_, rfl⟩
  have hs0 : W0.heap.size = w.heap.size + 1 + 1 := by subst hW0; simp
  have B0 : Below w.heap.size w W0 := by subst hW0; exact ((Below.refl _ _).alloc (Nat.le_refl _) _).alloc (by simp) _
  have K : Hid (Loc W0 w.heap.size #[.bool b, .slice a n cap]) := by subst hW0; exact (Loc.new w _ _).alloc _
  have J : Hid (Loc W0 (w.heap.size + 1) #[.bool false, .slice none 0 0]) := by
    subst hW0
    have := Loc.new (w.alloc (.cells #[.bool b, .slice a n cap] 32)) #[.bool false, .slice none 0 0] 32
    rw [show (w.alloc (.cells #[.bool b, .slice a n cap] 32)).heap.size = w.heap.size + 1 by simp] at this
    exact this
  have HR := Lib.hid ((h.below B0).alloc (.cells #[] 92))
  have HL := Lib.hid h.1.1
  have B1 := Lib.hid B0
  clear h B0
  go_enter Try.func68, Try.ntmps68
  go_wp2_with fail
  rw [← hW0]
  clear hW0
  obtain ⟨-, k0, f0⟩ := K.out
  have l0 := (K.out.alloc (.cells #[] 92)).2.1
  have hO := Lib.hid (own_nil W0 92 5 (w.heap.size + 1 + 1) W0.heap.size rfl (by omega))
  go_region_law ((refine step_append_src rfl (.tmp 5) (.tmp 7) 30 rfl (w.heap.size + 1 + 1) 92 i0 _ 5 40 Try.underlying30 hi.out hz0.out hz1.out hz2.out rfl (by decide) (.slice (some ⟨W0.heap.size, 0, none⟩) 0 0) 0 [] (by simp [Act.eval]) (World.ownsRow.drew hO.out) a n cap (xs.flatMap itLay.cells) (by simp [Act.eval]) HR.out.len HR.out.nil (fun p hp j u hj => HR.out.news p hp j u hj) (flat_one itLay _) (by unfold maxLen; omega) (by omega) (by simp; omega) ?_); intro v2 w2 o2 g2; obtain ⟨ra, rc, rfl⟩ := owns_shape o2; have K2 := Lib.hid ((K.out.alloc (.cells #[] 92)).drew.grown g2 (fun k hk => by simp [Value.ownBlock] at hk; omega)); have J2 := Lib.hid ((J.out.alloc (.cells #[] 92)).drew.grown g2 (fun k hk => by simp [Value.ownBlock] at hk; omega)); obtain ⟨-, k2, e2⟩ := K2.out; obtain ⟨-, j2, m2⟩ := J2.out)
  all_goals
    have O3 : Hid (OwnS itLay 92 w2 (w.heap.size + 1 + 1) (.slice ra n rc) xs) := by
      show OwnS _ _ _ _ _ _
      unfold OwnS
      rw [HL.out]
      simp only [Nat.zero_add, List.nil_append] at o2
      exact o2
    have B3 := Lib.hid (((B1.out.alloc (by omega) (.cells #[] 92)).drew).grown g2 (by simp; omega) (fun j hj => by simp [Value.ownBlock] at hj; omega))
    clear o2
    go_wp2
    refine bodyPost_ret (v := .agg #[.bool b, .slice ra n rc]) (by simp [results, Try.results68, go_sem, j2]) rfl ⟨_, rfl, ?_, ?_⟩
    · exact OwnS.mono (L := itLay) (ownS_set2 (ownS_set2 O3.out (by omega) _ _) (by omega) _ _) (by omega)
    · exact (B3.out.setCell (p := ⟨w.heap.size + 1, 0, none⟩) (show w.heap.size ≤ w.heap.size + 1 by omega) _).setCell (p := ⟨w.heap.size + 1, 1, none⟩) (show w.heap.size ≤ w.heap.size + 1 by omega) _
end Go.Proofs.Ytfefggcfeppeiaa

/- A call of a Go function at a step of a region that draws, met by its contract. -/
namespace Go.Proofs.Ytfefggcfeppeiaa
open Go.RowKit

theorem step_go {P : Program} {w : World} {ops : Array Oper} {o : Oper} {a : Act} {K : Act → World → Prop} {Q : Exit → Act → World → Prop} {E : Prop} (hgd : o.guard = none) (f : FuncId) (xs : Array Operand) (ts : Array TypeId)
    (ho : o.op = .call { callee := .value (.func f), args := xs, argTypes := ts }) (vs : Array Value) (hv : xs.map a.eval = vs) (eg : ∀ args w, (callFunc f args).run P w = .ok (.enter f args) w)
    {R : Value → World → Prop} (hc : Calls P f vs w fun e w' => ∃ v, e = .returned v ∧ R v w') (h : ∀ v w', R v w' → K (a.put o.dst v) w') :
    if Region.wanted o (yielded ops a.tmps) = true then Oper.wp P o a w K Q else E := by
  have hw : Region.wanted o (yielded ops a.tmps) = true := by simp [Region.wanted, hgd]
  rw [if_pos hw]
  subst hv
  have hrun : (execOp a.eval o).run P w = .ok (.enter f (xs.map a.eval)) w := by
    have e := eg (xs.map a.eval) w
    simp [execOp, ho, resolve, invoke, Act.eval, Deferred.ofValue]
    simpa using e
  unfold Oper.wp
  rw [hrun]
  show Calls P f _ w _
  refine hc.mono ?_
  rintro e w' ⟨v, rfl, hr⟩
  exact h v w' hr
end Go.Proofs.Ytfefggcfeppeiaa

/- The model's copy of a book, page by page. -/
namespace Go.Proofs.Ytfefggcfeppeiaa
open Go.RowKit
attribute [local go_sem ↓] Go.wp_at_zero Go.wp_at_succ

/-- Rows of elements of different types lie in different blocks. -/
theorem apart_types {w : World} {base base' : Nat} {e e' : TypeId} {s s' : Nat} {v v' : Value} {n n' : Nat} {xs xs' : List Value} (h : w.ownsRow base e s v n xs) (h' : w.ownsRow base' e' s' v' n' xs') (hne : e ≠ e') : Apart v v' := by
  intro g hv hv'
  rcases h.2 with ⟨rfl, _⟩ | ⟨g1, c1, cu1, rfl, _, hh, _⟩
  · cases hv
  · rcases h'.2 with ⟨rfl, _⟩ | ⟨g2, c2, cu2, rfl, _, hh', _⟩
    · cases hv'
    · obtain rfl : g1 = g := by simpa [Value.ownBlock] using hv
      obtain rfl : g2 = g1 := by simpa [Value.ownBlock] using hv'
      rw [hh] at hh'
      simp only [Option.some.injEq, Obj.cells.injEq] at hh'
      exact hne hh'.2.1
/-- A local's block bears its own type. -/
def TagT (T : TypeId) (V : World) (q : Nat) : Prop := ∃ cs fr, V.heap[q]? = some (.cells cs T fr)
theorem TagT.new (T : TypeId) (V : World) (cs : Array Value) : TagT T (V.alloc (.cells cs T)) V.heap.size := ⟨cs, _, heap_alloc_new V _⟩
theorem TagT.of {T : TypeId} {V V' : World} {q : Nat} (h : TagT T V q) (hb : V'.heap[q]? = V.heap[q]?) : TagT T V' q := by obtain ⟨cs, fr, e⟩ := h; exact ⟨cs, fr, hb.trans e⟩
theorem TagT.ne {T : TypeId} {V : World} {q base : Nat} {e : TypeId} {s : Nat} {v : Value} {n : Nat} {xs : List Value} (h : TagT T V q) (ho : V.ownsRow base e s v n xs) (hne : e ≠ T) : ∀ k, v.ownBlock = some k → k ≠ q := by
  rintro k hk rfl
  obtain ⟨cs, fr, hh⟩ := h
  rcases ho.2 with ⟨rfl, _⟩ | ⟨g1, c1, cu1, rfl, _, hh', _⟩
  · cases hk
  · obtain rfl : g1 = k := by simpa [Value.ownBlock] using hk
    rw [hh] at hh'
    simp only [Option.some.injEq, Obj.cells.injEq] at hh'
    exact hne hh'.2.1.symm

theorem TagT.set {T : TypeId} {V : World} {q : Nat} (h : TagT T V q) (p j : Nat) (u : Value) : TagT T (V.setCell ⟨p, j, none⟩ u) q := by
  obtain ⟨cs, fr, e⟩ := h
  by_cases hq : q = p
  · subst hq
    refine ⟨cs.setIfInBounds j u, fr, ?_⟩
    simp only [World.setCell, Array.getElem?_modify, e]
    simp
  · exact ⟨cs, fr, (Below.heap_setCell V ⟨p, j, none⟩ u q hq).trans e⟩
theorem wp_last {P : Program} {s : Code} {Q : Exit → Act → World → Prop} {a : Act} {w : World} (h : ∀ K : Act → World → Prop, (∀ a w, Q .normal a w → K a w) → s.wp P (Exit.then K Q) a w) : s.wp P Q a w := by
  refine wp_mono (h (Q .normal) (fun _ _ h => h)) ?_
  intro e a' w' hq
  cases e <;> exact hq

/-- One page more: the row may have moved, the entries lie where they lay. -/
theorem OwnP.snoc {w w1 w3 : World} {base : Nat} {v v' : Value} {ps : List PgV} {p : PgV} (h : OwnP w base v ps) (hB : Below w.heap.size w w1) (hp : OwnS itLay 92 w1 base p.sl p.xs) (hpn : ∀ g, p.sl.ownBlock = some g → w.heap.size ≤ g)
    (ho : w3.ownsRow base 48 3 v' (ps.length + 1) (ps.flatMap pgLay.cells ++ pgLay.cells p)) (hg : w1.grownBy w3 v.ownBlock) : OwnP w3 base v' (ps ++ [p]) := by
  have h1 := h.below hB
  have hrow : OwnS pgLay 48 w3 base v' (ps ++ [p]) := by
    unfold OwnS
    rw [List.length_append, List.flatMap_append, List.flatMap_cons, List.flatMap_nil, List.append_nil]
    exact ho
  have hvp : Apart v p.sl := apart_types h1.row hp (by decide)
  have hent : ∀ q ∈ ps ++ [p], OwnS itLay 92 w3 base q.sl q.xs := by
    intro q hq
    rcases List.mem_append.1 hq with h2 | h2
    · exact (h1.ent q h2).keptApart hg (h1.out q h2).symm
    · rw [List.mem_singleton.1 h2]
      exact hp.keptApart hg hvp.symm
  refine ⟨hrow, hent, fun q hq => apart_types hrow (hent q hq) (by decide), fun i j q r hij hq hr => ?_⟩
  have hlt : ∀ i q, (ps ++ [p])[i]? = some q → (i < ps.length ∧ ps[i]? = some q) ∨ (i = ps.length ∧ q = p) := by
    intro i q hq
    by_cases hi : i < ps.length
    · rw [List.getElem?_append_left hi] at hq
      exact .inl ⟨hi, hq⟩
    · have hl := (List.getElem?_eq_some_iff.1 hq).1
      simp at hl
      obtain rfl : i = ps.length := by omega
      rw [List.getElem?_concat_length] at hq
      exact .inr ⟨rfl, (Option.some.inj hq).symm⟩
  have hnew : ∀ q ∈ ps, Apart q.sl p.sl := fun q hq g h2 h3 => by
    have h4 := (World.ownsRow.lt (h.ent q hq) g h2).2
    have h5 := hpn g h3
    omega
  rcases hlt i q hq with ⟨h2, h3⟩ | ⟨h2, rfl⟩
  · rcases hlt j r hr with ⟨h4, h5⟩ | ⟨h4, rfl⟩
    · exact h.pair i j q r hij h3 h5
    · exact hnew q (List.mem_of_getElem? h3)
  · rcases hlt j r hr with ⟨h4, h5⟩ | ⟨h4, rfl⟩
    · exact (hnew r (List.mem_of_getElem? h5)).symm
    · exact absurd (h2.trans h4.symm) hij
end Go.Proofs.Ytfefggcfeppeiaa

/- The model's copy of a book. -/
namespace Go.Proofs.Ytfefggcfeppeiaa
open Go.RowKit

theorem own_ne {v : Value} {g : Nat} (h : ∀ k, v.ownBlock = some k → k ≠ g) : v.ownBlock = none ∨ v.ownBlock ≠ some g := by
  cases hv : v.ownBlock with
  | none => exact .inl rfl
  | some k => exact .inr (fun e => h k hv (Option.some.inj e))
theorem ownP_row {w : World} {base n : Nat} {v : Value} {ps : List PgV} (h : OwnP w base v ps) (hl : ps.length = n) : w.ownsRow base 48 3 v n (ps.flatMap pgLay.cells) := by
  subst hl
  exact h.row

theorem len_more {qs : List PgV} {k : Nat} {p : PgV} (h : Hid (qs.length = k)) : Hid ((qs ++ [p]).length = k + 1) := by
  show (qs ++ [p]).length = k + 1
  rw [List.length_append, h.out]
  rfl

theorem copy_round {w wr w4 w5 : World} {G k : Nat} {root : Int} {a a4 a5 : Option Addr} {n cap c4 c5 vc : Nat} {va : Option Addr} {qs ps : List PgV} {p : PgV} (hGl : G < wr.heap.size) (hG2 : w.heap.size + 2 < G)
    (KA : Loc wr w.heap.size #[.int .i64 root, .slice a n cap]) (KR : Loc wr (w.heap.size + 1) #[.int .i64 0, .slice none 0 0]) (TG : TagT 26 wr G) (HO : OwnP wr (w.heap.size + 2) (.slice va k vc) qs) (HQ : qs.length = k) (HP : ps[k]? = some p)
    (HT : qs.map PgV.pg = (ps.take k).map PgV.pg) (HB : Below w.heap.size w wr) (B4 : Below wr.drew.heap.size wr.drew w4) (O4 : OwnS itLay 92 w4 wr.drew.heap.size (.slice a4 p.xs.length c4) p.xs)
    (O5 : w5.ownsRow (w.heap.size + 2) 48 3 (.slice a5 (k + 1) c5) (k + 1) (qs.flatMap pgLay.cells ++ pgLay.cells ⟨p.used, p.leaf, a4, p.xs.length, c4, p.xs⟩)) (G5 : (w4.alloc (.cells #[.bool p.used, .bool p.leaf, .slice a4 p.xs.length c4] 48)).grownBy w5 (Value.slice va k vc).ownBlock) (L5 : Loc w5 G #[.int .i64 root, .slice va k vc]) :
    Hid (Loc (w5.setCell ⟨G, 1, none⟩ (.slice a5 (k + 1) c5)) w.heap.size #[.int .i64 root, .slice a n cap]) ∧ Hid (Loc (w5.setCell ⟨G, 1, none⟩ (.slice a5 (k + 1) c5)) (w.heap.size + 1) #[.int .i64 0, .slice none 0 0]) ∧ Hid (Loc (w5.setCell ⟨G, 1, none⟩ (.slice a5 (k + 1) c5)) G #[.int .i64 root, .slice a5 (k + 1) c5]) ∧
      Hid (TagT 26 (w5.setCell ⟨G, 1, none⟩ (.slice a5 (k + 1) c5)) G) ∧ Hid (OwnP (w5.setCell ⟨G, 1, none⟩ (.slice a5 (k + 1) c5)) (w.heap.size + 2) (.slice a5 (k + 1) c5) (qs ++ [(⟨p.used, p.leaf, a4, p.xs.length, c4, p.xs⟩ : PgV)])) ∧
      Hid ((qs ++ [(⟨p.used, p.leaf, a4, p.xs.length, c4, p.xs⟩ : PgV)]).map PgV.pg = (ps.take (k + 1)).map PgV.pg) ∧ Hid (Below w.heap.size w (w5.setCell ⟨G, 1, none⟩ (.slice a5 (k + 1) c5))) := by
  have E4 : OwnS itLay 92 w4 (w.heap.size + 2) (.slice a4 p.xs.length c4) p.xs := O4.mono (show w.heap.size + 2 ≤ wr.heap.size by omega)
  have P5 : OwnP w5 (w.heap.size + 2) (.slice a5 (k + 1) c5) (qs ++ [(⟨p.used, p.leaf, a4, p.xs.length, c4, p.xs⟩ : PgV)]) :=
    OwnP.snoc (w := wr.drew) (w1 := w4.alloc (.cells #[.bool p.used, .bool p.leaf, .slice a4 p.xs.length c4] 48)) (HO.below (drew_below _)) (B4.alloc B4.size _) (E4.below (new_below _ _)) (fun g hg => (World.ownsRow.lt O4 g hg).1) (by rw [HQ]; exact O5) G5
  have hrow : ∀ j, (Value.slice va k vc).ownBlock = some j → w.heap.size + 2 ≤ j ∧ j ≠ G := fun j hj => ⟨(World.ownsRow.lt HO.row j hj).1, TG.ne HO.row (by decide) j hj⟩
  have s4 := B4.size
  have e0 : wr.drew.heap.size = wr.heap.size := rfl
  have s5 := G5.size
  simp at s5
  have hbl : ∀ q, q < wr.heap.size → (q < w.heap.size + 2 ∨ q = G) → w5.heap[q]? = wr.heap[q]? := fun q hq hq' =>
    (G5.block q (by simp; omega) (fun e => by have := hrow q e.symm; omega)).trans ((Below.heap_alloc _ _ q (by omega)).trans (B4.block q hq))
  have T5 : TagT 26 w5 G := TG.of (hbl G hGl (.inr rfl))
  have hne1 := T5.ne P5.row (by decide)
  have hne2 : ∀ q ∈ qs ++ [(⟨p.used, p.leaf, a4, p.xs.length, c4, p.xs⟩ : PgV)], ∀ g, q.sl.ownBlock = some g → g ≠ G := fun q hq => T5.ne (P5.ent q hq) (by decide)
  have hG := grown_setCell (World.grownBy.refl w5 (some G)) G 1 (.slice a5 (k + 1) c5) rfl
  refine ⟨Lib.hid ((KA.of (by omega) (hbl _ (by omega) (.inl (by omega)))).other 1 _ (by omega)), Lib.hid ((KR.of (by omega) (hbl _ (by omega) (.inl (by omega)))).other 1 _ (by omega)), Lib.hid (L5.set 1 (.slice a5 (k + 1) c5) (by show 1 < 2; decide)), Lib.hid (TagT.set T5 G 1 (.slice a5 (k + 1) c5)),
    Lib.hid ⟨OwnS.kept P5.row hG (own_ne hne1), fun q hq => OwnS.kept (P5.ent q hq) hG (own_ne (hne2 q hq)), P5.out, P5.pair⟩, Lib.hid ?_, Lib.hid ?_⟩
  · rw [List.map_append, HT, List.take_add_one, HP, List.map_append]
    rfl
  · exact ((((HB.drew).trans (B4.mono (show w.heap.size ≤ wr.heap.size by omega))).alloc (by omega) (.cells #[.bool p.used, .bool p.leaf, .slice a4 p.xs.length c4] 48)).grown G5 (by simp; omega) (fun j hj => by have := (hrow j hj).1; omega)).setCell (p := ⟨G, 1, none⟩) (show w.heap.size ≤ G by omega) _

set_option maxRecDepth 100000 in
set_option maxHeartbeats 3200000 in
theorem l7Copy_any (root : Int) (a : Option Addr) (n cap : Nat) (ps : List PgV) (w : World) (h : RdP w a n cap ps) (hn : n ≤ 1099511627776) (hps : ∀ p ∈ ps, p.n ≤ 1099511627776) :
    Calls Try.prog 60 #[.agg #[.int .i64 root, .slice a n cap]] w (NewBook root (ps.map PgV.pg) w) := by
  obtain ⟨i0, hi, hz0, hz1, hz2⟩ := info_parts Try.infoPage
  replace hi := Lib.hid hi
  replace hz0 := Lib.hid hz0
  replace hz1 := Lib.hid hz1
  replace hz2 := Lib.hid hz2
  have hnc := h.1.1.2.1
  have hm := h.1.1.2.2.1
  unfold maxLen at hm
  have HR := Lib.hid h
  have HL := Lib.hid h.1.1.1
  have HN := Lib.hid hps
  obtain ⟨W0, hW0⟩ : ∃ W0, W0 = ((w.alloc (.cells #[.int .i64 root, .slice a n cap] 26)).alloc (.cells #[.int .i64 0, .slice none 0 0] 26)).alloc (.cells #[] 48) := ⟨_, rfl⟩
  have hs0 : W0.heap.size = w.heap.size + 1 + 1 + 1 := by subst hW0; simp
  have B0 : Below w.heap.size w W0 := by subst hW0; exact (((Below.refl _ _).alloc (Nat.le_refl _) _).alloc (by simp) _).alloc (by simp; omega) _
  have KA : Loc W0 w.heap.size #[.int .i64 root, .slice a n cap] := by subst hW0; exact ((Loc.new w _ _).alloc _).alloc _
  have KR : Loc W0 (w.heap.size + 1) #[.int .i64 0, .slice none 0 0] := by
    subst hW0
    have := (Loc.new (w.alloc (.cells #[.int .i64 root, .slice a n cap] 26)) #[.int .i64 0, .slice none 0 0] 26).alloc (.cells #[] 48)
    rw [show (w.alloc (.cells #[.int .i64 root, .slice a n cap] 26)).heap.size = w.heap.size + 1 by simp] at this
    exact this
  have OP : OwnP W0 (w.heap.size + 2) (.slice (some ⟨w.heap.size + 2, 0, none⟩) 0 0) [] := by
    subst hW0
    exact ⟨own_nil ((w.alloc (.cells #[.int .i64 root, .slice a n cap] 26)).alloc (.cells #[.int .i64 0, .slice none 0 0] 26)) 48 3 (w.heap.size + 2) (w.heap.size + 2) (by simp) (Nat.le_refl _), fun p hp => (by cases hp), fun p hp => (by cases hp), fun i j p q _ hp => (by simp at hp)⟩
  obtain ⟨G, hG⟩ : ∃ G, G = w.heap.size + 1 + 1 + 1 := ⟨_, rfl⟩
  have KG := Loc.new W0 #[.int .i64 root, .slice (some ⟨w.heap.size + 2, 0, none⟩) 0 0] 26
  have TG := TagT.new 26 W0 #[.int .i64 root, .slice (some ⟨w.heap.size + 2, 0, none⟩) 0 0]
  rw [hs0, ← hG] at KG TG
  replace KA := Lib.hid (KA.alloc (.cells #[.int .i64 root, .slice (some ⟨w.heap.size + 2, 0, none⟩) 0 0] 26))
  replace KR := Lib.hid (KR.alloc (.cells #[.int .i64 root, .slice (some ⟨w.heap.size + 2, 0, none⟩) 0 0] 26))
  replace KG := Lib.hid KG
  replace TG := Lib.hid TG
  have HO := Lib.hid (OP.below (new_below W0 (.cells #[.int .i64 root, .slice (some ⟨w.heap.size + 2, 0, none⟩) 0 0] 26)))
  replace B0 := Lib.hid (B0.alloc (by omega) (.cells #[.int .i64 root, .slice (some ⟨w.heap.size + 2, 0, none⟩) 0 0] 26))
  clear h hps OP
  go_enter Try.func60, Try.ntmps60
  go_wp2
  rw [← hW0, ← hG]
  clear hW0
  have hG2 : w.heap.size + 2 < G := by omega
  replace hG := Lib.hid hG
  go_loopw [4] (fun i wr => ∃ (k : Nat) (va : Option Addr) (vc : Nat) (qs : List PgV), k ≤ n ∧ i = .int .i64 (k : Int) ∧ Hid (qs.length = k) ∧ Hid (Loc wr w.heap.size #[.int .i64 root, .slice a n cap]) ∧ Hid (Loc wr (w.heap.size + 1) #[.int .i64 0, .slice none 0 0]) ∧ Hid (Loc wr G #[.int .i64 root, .slice va k vc]) ∧ Hid (TagT 26 wr G) ∧ Hid (OwnP wr (w.heap.size + 2) (.slice va k vc) qs) ∧ Hid (qs.map PgV.pg = (ps.take k).map PgV.pg) ∧ Hid (Below w.heap.size w wr)) (fun i _ => n - (intOf i).toNat)
  case atStart => exact ⟨0, _, _, [], Nat.zero_le _, rfl, Lib.hid rfl, KA, KR, KG, TG, HO, Lib.hid rfl, B0⟩
  case round =>
    clear KA KR KG TG HO B0
    obtain ⟨k, va, vc, qs, hk, rfl, HQ, KA, KR, KG, TG, HO, HT, HB⟩ := hrel
    obtain ⟨hA, k0, f0⟩ := KA.out
    obtain ⟨hGl, j0, g0⟩ := KG.out
    by_cases hlt : k < n
    · obtain ⟨b, off, p, rfl, hbl, hp, hrd, d0, d1, d2⟩ := rdP_at (HR.out.below HB.out) hlt
      have hbw : b < w.heap.size := HR.out.1.lt (by omega) rfl
      have HP := Lib.hid hp
      have hpn := HN.out p (List.mem_of_getElem? hp)
      have HRD := Lib.hid hrd
      have z0 : (0 : Int) ≤ k := by omega
      have z1 : (k : Int) < n := by omega
      have c1 := j0 1
      simp at c1
      have a1 := k0 1
      simp at a1
      have hq2 : w.heap.size < w.heap.size + 1 := Nat.lt_succ_self _
      have hbw2 : b < w.heap.size + 1 := by omega
      have KB := Lib.hid (show ∀ V : World, (∀ q o, q < w.heap.size + 1 → V.cell? ⟨q, o, none⟩ = wr.cell? ⟨q, o, none⟩) → V.cell? ⟨w.heap.size, 1, none⟩ = some (.slice (some ⟨b, off, none⟩) n cap) ∧ V.cell? ⟨b, off + k * 3, none⟩ = some (.bool p.used) ∧ V.cell? ⟨b, off + k * 3 + 1, none⟩ = some (.bool p.leaf) ∧ V.cell? ⟨b, off + k * 3 + 1 + 1, none⟩ = some (.slice p.a p.n p.cap) from fun V hV =>
        ⟨(hV _ _ (by omega)).trans a1, (hV _ _ (by omega)).trans d0, (hV _ _ (by omega)).trans d1, (hV _ _ (by omega)).trans d2⟩)
      have CC := Lib.hid (l5Copy_any p.leaf p.a p.n p.cap p.xs wr.drew (hrd.below (drew_below _)) hpn)
      have OL := Lib.hid (ownP_len HO.out)
      clear hp hrd
      go_upto_region 5 with (fail)
      refine wp_last ?_
      intro KK hKK
      go_cut [] (fun wx => ∃ (a5 : Option Addr) (c5 : Nat) (rs : List PgV), Hid (rs.length = k + 1) ∧ Hid (Loc wx w.heap.size #[.int .i64 root, .slice (some ⟨b, off, none⟩) n cap]) ∧ Hid (Loc wx (w.heap.size + 1) #[.int .i64 0, .slice none 0 0]) ∧ Hid (Loc wx G #[.int .i64 root, .slice a5 (k + 1) c5]) ∧ Hid (TagT 26 wx G) ∧ Hid (OwnP wx (w.heap.size + 2) (.slice a5 (k + 1) c5) rs) ∧ Hid (rs.map PgV.pg = (ps.take (k + 1)).map PgV.pg) ∧ Hid (Below w.heap.size w wx))
      case first => as_aux_lemma =>
        refine wp_region_noPanic ?_
        refine wp_region_held_drew (S := fun V => V.cell? ⟨w.heap.size, 1, none⟩ = some (.slice (some ⟨b, off, none⟩) n cap) ∧ V.cell? ⟨b, off + k * 3, none⟩ = some (.bool p.used) ∧ V.cell? ⟨b, off + k * 3 + 1, none⟩ = some (.bool p.leaf) ∧ V.cell? ⟨b, off + k * 3 + 1 + 1, none⟩ = some (.slice p.a p.n p.cap)) (by kernel_rfl) (KB.out _ (fun _ _ _ => rfl)) (fun hHeld => ?_)
        refine wpAnyH_take (i := 0) (v := ?v0_6) rfl (by kernel_rfl) (by kernel_rfl) (by kernel_rfl) (fun _ _ _ h => h) (Or.inl ⟨by rfl, ?hy0_6⟩) (by assumption) ?rest0_6
        case hy0_6 => intro w hSw; (try dsimp only at hSw); go_simp; (try with_reducible rfl)
        simp only [List.getElem_toArray, List.getElem_cons_zero, Act.put, List.setIfInBounds_toArray, List.set_cons_zero, List.set_cons_succ]
        refine wpAnyH_take (i := 2) (v := ?v2_7) rfl (by kernel_rfl) (by kernel_rfl) (by kernel_rfl) (fun _ _ _ h => h) (Or.inl ⟨by rfl, ?hy2_7⟩) (by assumption) ?rest2_7
        case hy2_7 => intro w hSw; (try dsimp only at hSw); go_simp; (try with_reducible rfl)
        simp only [List.getElem_toArray, List.getElem_cons_zero, List.getElem_cons_succ, Act.put, List.setIfInBounds_toArray, List.set_cons_zero, List.set_cons_succ]
        refine wpAnyH_take (i := 3) (v := ?v3_8) rfl (by kernel_rfl) (by kernel_rfl) (by kernel_rfl) (fun _ _ _ h => h) (Or.inl ⟨by rfl, ?hy3_8⟩) (by assumption) ?rest3_8
        case hy3_8 => intro w hSw; (try dsimp only at hSw); go_simp; (try with_reducible rfl)
        simp only [List.getElem_toArray, List.getElem_cons_zero, List.getElem_cons_succ, Act.put, List.setIfInBounds_toArray, List.set_cons_zero, List.set_cons_succ]
        refine wpAnyH_take (i := 4) (v := ?v4_9) rfl (by kernel_rfl) (by kernel_rfl) (by kernel_rfl) (fun _ _ _ h => h) (Or.inl ⟨by rfl, ?hy4_9⟩) (by assumption) ?rest4_9
        case hy4_9 => intro w hSw; (try dsimp only at hSw); go_simp; (try with_reducible rfl)
        simp only [List.getElem_toArray, List.getElem_cons_zero, List.getElem_cons_succ, Act.put, List.setIfInBounds_toArray, List.set_cons_zero, List.set_cons_succ]
        refine wpAnyH_take (i := 5) (v := ?v5_10) rfl (by kernel_rfl) (by kernel_rfl) (by kernel_rfl) (fun _ _ _ h => h) (Or.inl ⟨by rfl, ?hy5_10⟩) (by assumption) ?rest5_10
        case hy5_10 => intro w hSw; (try dsimp only at hSw); go_simp; (try with_reducible rfl)
        simp only [List.getElem_toArray, List.getElem_cons_zero, List.getElem_cons_succ, Act.put, List.setIfInBounds_toArray, List.set_cons_zero, List.set_cons_succ]
        refine wpAnyH_take (i := 6) (v := ?v6_11) rfl (by kernel_rfl) (by kernel_rfl) (by kernel_rfl) (fun _ _ _ h => h) (Or.inl ⟨by rfl, ?hy6_11⟩) (by assumption) ?rest6_11
        case hy6_11 => intro w hSw; (try dsimp only at hSw); go_simp; (try with_reducible rfl)
        simp only [List.getElem_toArray, List.getElem_cons_zero, List.getElem_cons_succ, Act.put, List.setIfInBounds_toArray, List.set_cons_zero, List.set_cons_succ]
        refine wpAnyH_take (i := 7) (v := ?v7_12) rfl (by kernel_rfl) (by kernel_rfl) (by kernel_rfl) (fun _ _ _ h => h) (Or.inl ⟨by rfl, ?hy7_12⟩) (by assumption) ?rest7_12
        case hy7_12 => intro w hSw; (try dsimp only at hSw); go_simp; (try with_reducible rfl)
        simp only [List.getElem_toArray, List.getElem_cons_zero, List.getElem_cons_succ, Act.put, List.setIfInBounds_toArray, List.set_cons_zero, List.set_cons_succ]
        refine wpAnyH_take (i := 8) (v := ?v8_13) rfl (by kernel_rfl) (by kernel_rfl) (by kernel_rfl) (fun _ _ _ h => h) (Or.inl ⟨by rfl, ?hy8_13⟩) (by assumption) ?rest8_13
        case hy8_13 => intro w hSw; (try dsimp only at hSw); go_simp; (try with_reducible rfl)
        simp only [List.getElem_toArray, List.getElem_cons_zero, List.getElem_cons_succ, Act.put, List.setIfInBounds_toArray, List.set_cons_zero, List.set_cons_succ]
        refine wpAnyH_take (i := 9) (v := ?v9_14) rfl (by kernel_rfl) (by kernel_rfl) (by kernel_rfl) (fun _ _ _ h => h) (Or.inl ⟨by rfl, ?hy9_14⟩) (by assumption) ?rest9_14
        case hy9_14 => intro w hSw; (try dsimp only at hSw); go_simp; (try with_reducible rfl)
        simp only [List.getElem_toArray, List.getElem_cons_zero, List.getElem_cons_succ, Act.put, List.setIfInBounds_toArray, List.set_cons_zero, List.set_cons_succ]
        refine wpAnyH_take (i := 10) (v := ?v10_15) rfl (by kernel_rfl) (by kernel_rfl) (by kernel_rfl) (fun _ _ _ h => h) (Or.inl ⟨by rfl, ?hy10_15⟩) (by assumption) ?rest10_15
        case hy10_15 => intro w hSw; (try dsimp only at hSw); go_simp; (try with_reducible rfl)
        simp only [List.getElem_toArray, List.getElem_cons_zero, List.getElem_cons_succ, Act.put, List.setIfInBounds_toArray, List.set_cons_zero, List.set_cons_succ]
        refine wpAnyH_take (i := 11) (v := ?v11_16) rfl (by kernel_rfl) (by kernel_rfl) (by kernel_rfl) (fun _ _ _ h => h) (Or.inl ⟨by rfl, ?hy11_16⟩) (by assumption) ?rest11_16
        case hy11_16 => intro w hSw; (try dsimp only at hSw); go_simp; (try with_reducible rfl)
        simp only [List.getElem_toArray, List.getElem_cons_zero, List.getElem_cons_succ, Act.put, List.setIfInBounds_toArray, List.set_cons_zero, List.set_cons_succ]
        refine wpAnyH_take (i := 12) (v := ?v12_17) rfl (by kernel_rfl) (by kernel_rfl) (by kernel_rfl) (fun _ _ _ h => h) (Or.inl ⟨by rfl, ?hy12_17⟩) (by assumption) ?rest12_17
        case hy12_17 => intro w hSw; (try dsimp only at hSw); go_simp; (try with_reducible rfl)
        simp only [List.getElem_toArray, List.getElem_cons_zero, List.getElem_cons_succ, Act.put, List.setIfInBounds_toArray, List.set_cons_zero, List.set_cons_succ]
        refine wpAnyH_take (i := 13) (v := ?v13_18) rfl (by kernel_rfl) (by kernel_rfl) (by kernel_rfl) (fun _ _ _ h => h) (Or.inl ⟨by rfl, ?hy13_18⟩) (by assumption) ?rest13_18
        case hy13_18 => intro w hSw; (try dsimp only at hSw); go_simp; (try with_reducible rfl)
        simp only [List.getElem_toArray, List.getElem_cons_zero, List.getElem_cons_succ, Act.put, List.setIfInBounds_toArray, List.set_cons_zero, List.set_cons_succ]
        refine wpAnyH_ready (rs := [1, 14]) (by kernel_rfl) (by simp) ?_
        refine AllReadyH.cons rfl (fun K hK => ?_) (AllReadyH.cons rfl (fun K hK => ?_) AllReadyH.nil)
        · go_simp
          refine hK.out _ _ (KB.out _ (fun _ _ _ => rfl)) (fun hHeld => ?_)
          clear hK K
          refine wpAnyH_ready (rs := [14]) (by kernel_rfl) (by simp) ?_
          refine AllReadyH.cons rfl (fun K hK => ?_) AllReadyH.nil
          go_simp
          refine CC.out.mono ?_
          rintro e w4 ⟨u4, rfl, o4, b4⟩
          obtain ⟨a4, c4, rfl, -⟩ := OwnS.rd o4
          have hk4 : Hid (∀ q o, q < w.heap.size + 1 → w4.cell? ⟨q, o, none⟩ = wr.cell? ⟨q, o, none⟩) := Lib.hid (fun q o hq => b4.cell (p := ⟨q, o, none⟩) (show q < wr.heap.size by omega))
          have L4 := Lib.hid ((KG.out.drew).below b4)
          have c4' := L4.out.2.1 1
          simp at c4'
          have l4 := (World.cell?_alloc_lt w4 (.cells #[.bool p.used, .bool p.leaf, .slice a4 p.xs.length c4] 48) ⟨G, 1, none⟩ L4.out.1).trans c4'
          have hk4a : Hid (∀ q o, q < w.heap.size + 1 → (w4.alloc (.cells #[.bool p.used, .bool p.leaf, .slice a4 p.xs.length c4] 48)).cell? ⟨q, o, none⟩ = wr.cell? ⟨q, o, none⟩) := Lib.hid (fun q o hq => (World.cell?_alloc_lt w4 _ ⟨q, o, none⟩ (show q < w4.heap.size by have := b4.size; have e : wr.drew.heap.size = wr.heap.size := rfl; omega)).trans (hk4.out q o hq))
          have B4 := Lib.hid b4
          have O4 := Lib.hid o4
          clear b4 o4
          refine hK.out _ _ (KB.out _ hk4.out) (fun hHeld => ?_)
          clear hK K
          refine wpAnyH_take (i := 15) (v := ?v15_1) rfl (by kernel_rfl) (by kernel_rfl) (by kernel_rfl) (fun _ _ _ h => h) (Or.inl ⟨by rfl, ?hy15_1⟩) (by assumption) ?rest15_1
          case hy15_1 => intro w hSw; (try dsimp only at hSw); go_simp; (try with_reducible rfl)
          simp only [List.getElem_toArray, List.getElem_cons_zero, List.getElem_cons_succ, Act.put, List.setIfInBounds_toArray, List.set_cons_zero, List.set_cons_succ]
          refine wpAnyH_ready (rs := [16]) (by kernel_rfl) (by simp) ?_
          refine AllReadyH.cons rfl (fun K hK => ?_) AllReadyH.nil
          go_simp
          refine hK.out _ _ (KB.out _ hk4a.out) (fun hHeld => ?_)
          clear hK K
          refine wpAnyH_ready (rs := [17]) (by kernel_rfl) (by simp) ?_
          refine AllReadyH.cons rfl (fun K hK => ?_) AllReadyH.nil
          refine step_append_src rfl (.tmp 17) (.tmp 32) 24 rfl (w.heap.size + 2) 48 i0 _ 3 40 Try.underlying24 hi.out hz0.out hz1.out hz2.out rfl (by decide) (.slice va k vc) k (qs.flatMap pgLay.cells) rfl (World.ownsRow.alloc (ownP_row ((HO.out.below (drew_below _)).below B4.out) HQ.out) _) (some ⟨w4.heap.size, 0, none⟩) 1 1 (pgLay.cells ⟨p.used, p.leaf, a4, p.xs.length, c4, p.xs⟩) rfl rfl (fun h => by cases h) (fun q hq => by cases hq; exact World.news_of_block (cs := #[.bool p.used, .bool p.leaf, .slice a4 p.xs.length c4]) (t := 48) (fr := (0, 0)) (heap_alloc_new w4 _)) (pgLay.one _) (by unfold maxLen; omega) (by omega) (by have := L4.out.1; simp; omega) ?_
          intro v5 w5 o5 g5
          obtain ⟨a5, c5, rfl⟩ := owns_shape o5
          have hrow : ∀ j, (Value.slice va k vc).ownBlock = some j → w.heap.size + 2 ≤ j := fun j hj => (World.ownsRow.lt HO.out.row j hj).1
          have hk5 : Hid (∀ q o, q < w.heap.size + 1 → w5.cell? ⟨q, o, none⟩ = wr.cell? ⟨q, o, none⟩) := Lib.hid (fun q o hq => (World.cell?_of_block (a := ⟨q, o, none⟩) (g5.block q (by have := L4.out.1; simp; omega) (fun e => by have := hrow q e.symm; omega))).trans (hk4a.out q o hq))
          have L5 : Hid (Loc w5 G #[.int .i64 root, .slice va k vc]) := Lib.hid ((L4.out.alloc _).grown g5 (fun j hj => TG.out.ne HO.out.row (by decide) j hj))
          have hk6 : Hid (∀ q o, q < w.heap.size + 1 → (w5.setCell ⟨G, 1, none⟩ (.slice a5 (k + 1) c5)).cell? ⟨q, o, none⟩ = wr.cell? ⟨q, o, none⟩) := Lib.hid (fun q o hq => (World.cell?_setCell_other _ _ _ _ (by intro e; simp only [Addr.mk.injEq] at e; omega)).trans (hk5.out q o hq))
          have j5 := L5.out.2.1
          have e5 := L5.out.2.2
          have G5 := Lib.hid g5
          have O5 := Lib.hid o5
          clear o5 g5
          refine hK.out _ _ (KB.out _ hk5.out) (fun hHeld => ?_)
          clear hK K
          refine wpAnyH_take (i := 18) (v := ?v18_2) rfl (by kernel_rfl) (by kernel_rfl) (by kernel_rfl) (fun _ _ _ h => h) (Or.inl ⟨by rfl, ?hy18_2⟩) (by assumption) ?rest18_2
          case hy18_2 => intro w hSw; (try dsimp only at hSw); go_simp; (try with_reducible rfl)
          simp only [List.getElem_toArray, List.getElem_cons_zero, List.getElem_cons_succ, Act.put, List.setIfInBounds_toArray, List.set_cons_zero, List.set_cons_succ]
          refine wpAnyH_ready (rs := [19]) (by kernel_rfl) (by simp) ?_
          refine AllReadyH.cons rfl (fun K hK => ?_) AllReadyH.nil
          go_simp
          refine hK.out _ _ (KB.out _ hk6.out) (fun hHeld => ?_)
          clear hK K
          refine wpAnyH_done (by kernel_rfl) ?_ _
          refine NoPanic.normal ?_
          clear hHeld
          have RR := Lib.hid (copy_round hGl hG2 KA.out KR.out TG.out HO.out HQ.out HP.out HT.out HB.out B4.out O4.out O5.out G5.out L5.out)
          clear O5 G5 L4
          go_wp2_with fail
          go_meet
          exact ⟨a5, c5, _, len_more HQ, RR.out⟩
        · go_simp
          refine CC.out.mono ?_
          rintro e w4 ⟨u4, rfl, o4, b4⟩
          obtain ⟨a4, c4, rfl, -⟩ := OwnS.rd o4
          have hk4 : Hid (∀ q o, q < w.heap.size + 1 → w4.cell? ⟨q, o, none⟩ = wr.cell? ⟨q, o, none⟩) := Lib.hid (fun q o hq => b4.cell (p := ⟨q, o, none⟩) (show q < wr.heap.size by omega))
          have L4 := Lib.hid ((KG.out.drew).below b4)
          have c4' := L4.out.2.1 1
          simp at c4'
          have l4 := (World.cell?_alloc_lt w4 (.cells #[.bool p.used, .bool p.leaf, .slice a4 p.xs.length c4] 48) ⟨G, 1, none⟩ L4.out.1).trans c4'
          have hk4a : Hid (∀ q o, q < w.heap.size + 1 → (w4.alloc (.cells #[.bool p.used, .bool p.leaf, .slice a4 p.xs.length c4] 48)).cell? ⟨q, o, none⟩ = wr.cell? ⟨q, o, none⟩) := Lib.hid (fun q o hq => (World.cell?_alloc_lt w4 _ ⟨q, o, none⟩ (show q < w4.heap.size by have := b4.size; have e : wr.drew.heap.size = wr.heap.size := rfl; omega)).trans (hk4.out q o hq))
          have B4 := Lib.hid b4
          have O4 := Lib.hid o4
          clear b4 o4
          refine hK.out _ _ (KB.out _ hk4.out) (fun hHeld => ?_)
          clear hK K
          refine wpAnyH_take (i := 15) (v := ?v15_5) rfl (by kernel_rfl) (by kernel_rfl) (by kernel_rfl) (fun _ _ _ h => h) (Or.inl ⟨by rfl, ?hy15_5⟩) (by assumption) ?rest15_5
          case hy15_5 => intro w hSw; (try dsimp only at hSw); go_simp; (try with_reducible rfl)
          simp only [List.getElem_toArray, List.getElem_cons_zero, List.getElem_cons_succ, Act.put, List.setIfInBounds_toArray, List.set_cons_zero, List.set_cons_succ]
          refine wpAnyH_ready (rs := [1, 16]) (by kernel_rfl) (by simp) ?_
          refine AllReadyH.cons rfl (fun K hK => ?_) (AllReadyH.cons rfl (fun K hK => ?_) AllReadyH.nil)
          · go_simp
            refine hK.out _ _ (KB.out _ hk4.out) (fun hHeld => ?_)
            clear hK K
            refine wpAnyH_ready (rs := [16]) (by kernel_rfl) (by simp) ?_
            refine AllReadyH.cons rfl (fun K hK => ?_) AllReadyH.nil
            go_simp
            refine hK.out _ _ (KB.out _ hk4a.out) (fun hHeld => ?_)
            clear hK K
            refine wpAnyH_ready (rs := [17]) (by kernel_rfl) (by simp) ?_
            refine AllReadyH.cons rfl (fun K hK => ?_) AllReadyH.nil
            refine step_append_src rfl (.tmp 17) (.tmp 32) 24 rfl (w.heap.size + 2) 48 i0 _ 3 40 Try.underlying24 hi.out hz0.out hz1.out hz2.out rfl (by decide) (.slice va k vc) k (qs.flatMap pgLay.cells) rfl (World.ownsRow.alloc (ownP_row ((HO.out.below (drew_below _)).below B4.out) HQ.out) _) (some ⟨w4.heap.size, 0, none⟩) 1 1 (pgLay.cells ⟨p.used, p.leaf, a4, p.xs.length, c4, p.xs⟩) rfl rfl (fun h => by cases h) (fun q hq => by cases hq; exact World.news_of_block (cs := #[.bool p.used, .bool p.leaf, .slice a4 p.xs.length c4]) (t := 48) (fr := (0, 0)) (heap_alloc_new w4 _)) (pgLay.one _) (by unfold maxLen; omega) (by omega) (by have := L4.out.1; simp; omega) ?_
            intro v5 w5 o5 g5
            obtain ⟨a5, c5, rfl⟩ := owns_shape o5
            have hrow : ∀ j, (Value.slice va k vc).ownBlock = some j → w.heap.size + 2 ≤ j := fun j hj => (World.ownsRow.lt HO.out.row j hj).1
            have hk5 : Hid (∀ q o, q < w.heap.size + 1 → w5.cell? ⟨q, o, none⟩ = wr.cell? ⟨q, o, none⟩) := Lib.hid (fun q o hq => (World.cell?_of_block (a := ⟨q, o, none⟩) (g5.block q (by have := L4.out.1; simp; omega) (fun e => by have := hrow q e.symm; omega))).trans (hk4a.out q o hq))
            have L5 : Hid (Loc w5 G #[.int .i64 root, .slice va k vc]) := Lib.hid ((L4.out.alloc _).grown g5 (fun j hj => TG.out.ne HO.out.row (by decide) j hj))
            have hk6 : Hid (∀ q o, q < w.heap.size + 1 → (w5.setCell ⟨G, 1, none⟩ (.slice a5 (k + 1) c5)).cell? ⟨q, o, none⟩ = wr.cell? ⟨q, o, none⟩) := Lib.hid (fun q o hq => (World.cell?_setCell_other _ _ _ _ (by intro e; simp only [Addr.mk.injEq] at e; omega)).trans (hk5.out q o hq))
            have j5 := L5.out.2.1
            have e5 := L5.out.2.2
            have G5 := Lib.hid g5
            have O5 := Lib.hid o5
            clear o5 g5
            refine hK.out _ _ (KB.out _ hk5.out) (fun hHeld => ?_)
            clear hK K
            refine wpAnyH_take (i := 18) (v := ?v18_3) rfl (by kernel_rfl) (by kernel_rfl) (by kernel_rfl) (fun _ _ _ h => h) (Or.inl ⟨by rfl, ?hy18_3⟩) (by assumption) ?rest18_3
            case hy18_3 => intro w hSw; (try dsimp only at hSw); go_simp; (try with_reducible rfl)
            simp only [List.getElem_toArray, List.getElem_cons_zero, List.getElem_cons_succ, Act.put, List.setIfInBounds_toArray, List.set_cons_zero, List.set_cons_succ]
            refine wpAnyH_ready (rs := [19]) (by kernel_rfl) (by simp) ?_
            refine AllReadyH.cons rfl (fun K hK => ?_) AllReadyH.nil
            go_simp
            refine hK.out _ _ (KB.out _ hk6.out) (fun hHeld => ?_)
            clear hK K
            refine wpAnyH_done (by kernel_rfl) ?_ _
            refine NoPanic.normal ?_
            clear hHeld
            have RR := Lib.hid (copy_round hGl hG2 KA.out KR.out TG.out HO.out HQ.out HP.out HT.out HB.out B4.out O4.out O5.out G5.out L5.out)
            clear O5 G5 L4
            go_wp2_with fail
            go_meet
            exact ⟨a5, c5, _, len_more HQ, RR.out⟩
          · go_simp
            refine hK.out _ _ (KB.out _ hk4a.out) (fun hHeld => ?_)
            clear hK K
            refine wpAnyH_ready (rs := [1]) (by kernel_rfl) (by simp) ?_
            refine AllReadyH.cons rfl (fun K hK => ?_) AllReadyH.nil
            go_simp
            refine hK.out _ _ (KB.out _ hk4a.out) (fun hHeld => ?_)
            clear hK K
            refine wpAnyH_ready (rs := [17]) (by kernel_rfl) (by simp) ?_
            refine AllReadyH.cons rfl (fun K hK => ?_) AllReadyH.nil
            refine step_append_src rfl (.tmp 17) (.tmp 32) 24 rfl (w.heap.size + 2) 48 i0 _ 3 40 Try.underlying24 hi.out hz0.out hz1.out hz2.out rfl (by decide) (.slice va k vc) k (qs.flatMap pgLay.cells) rfl (World.ownsRow.alloc (ownP_row ((HO.out.below (drew_below _)).below B4.out) HQ.out) _) (some ⟨w4.heap.size, 0, none⟩) 1 1 (pgLay.cells ⟨p.used, p.leaf, a4, p.xs.length, c4, p.xs⟩) rfl rfl (fun h => by cases h) (fun q hq => by cases hq; exact World.news_of_block (cs := #[.bool p.used, .bool p.leaf, .slice a4 p.xs.length c4]) (t := 48) (fr := (0, 0)) (heap_alloc_new w4 _)) (pgLay.one _) (by unfold maxLen; omega) (by omega) (by have := L4.out.1; simp; omega) ?_
            intro v5 w5 o5 g5
            obtain ⟨a5, c5, rfl⟩ := owns_shape o5
            have hrow : ∀ j, (Value.slice va k vc).ownBlock = some j → w.heap.size + 2 ≤ j := fun j hj => (World.ownsRow.lt HO.out.row j hj).1
            have hk5 : Hid (∀ q o, q < w.heap.size + 1 → w5.cell? ⟨q, o, none⟩ = wr.cell? ⟨q, o, none⟩) := Lib.hid (fun q o hq => (World.cell?_of_block (a := ⟨q, o, none⟩) (g5.block q (by have := L4.out.1; simp; omega) (fun e => by have := hrow q e.symm; omega))).trans (hk4a.out q o hq))
            have L5 : Hid (Loc w5 G #[.int .i64 root, .slice va k vc]) := Lib.hid ((L4.out.alloc _).grown g5 (fun j hj => TG.out.ne HO.out.row (by decide) j hj))
            have hk6 : Hid (∀ q o, q < w.heap.size + 1 → (w5.setCell ⟨G, 1, none⟩ (.slice a5 (k + 1) c5)).cell? ⟨q, o, none⟩ = wr.cell? ⟨q, o, none⟩) := Lib.hid (fun q o hq => (World.cell?_setCell_other _ _ _ _ (by intro e; simp only [Addr.mk.injEq] at e; omega)).trans (hk5.out q o hq))
            have j5 := L5.out.2.1
            have e5 := L5.out.2.2
            have G5 := Lib.hid g5
            have O5 := Lib.hid o5
            clear o5 g5
            refine hK.out _ _ (KB.out _ hk5.out) (fun hHeld => ?_)
            clear hK K
            refine wpAnyH_take (i := 18) (v := ?v18_4) rfl (by kernel_rfl) (by kernel_rfl) (by kernel_rfl) (fun _ _ _ h => h) (Or.inl ⟨by rfl, ?hy18_4⟩) (by assumption) ?rest18_4
            case hy18_4 => intro w hSw; (try dsimp only at hSw); go_simp; (try with_reducible rfl)
            simp only [List.getElem_toArray, List.getElem_cons_zero, List.getElem_cons_succ, Act.put, List.setIfInBounds_toArray, List.set_cons_zero, List.set_cons_succ]
            refine wpAnyH_ready (rs := [19]) (by kernel_rfl) (by simp) ?_
            refine AllReadyH.cons rfl (fun K hK => ?_) AllReadyH.nil
            go_simp
            refine hK.out _ _ (KB.out _ hk6.out) (fun hHeld => ?_)
            clear hK K
            refine wpAnyH_done (by kernel_rfl) ?_ _
            refine NoPanic.normal ?_
            clear hHeld
            have RR := Lib.hid (copy_round hGl hG2 KA.out KR.out TG.out HO.out HQ.out HP.out HT.out HB.out B4.out O4.out O5.out G5.out L5.out)
            clear O5 G5 L4
            go_wp2_with fail
            go_meet
            exact ⟨a5, c5, _, len_more HQ, RR.out⟩
      case rest =>
        obtain ⟨a5, c5, rs, hr⟩ := hcut
        refine hKK _ _ ?_
        go_wp2
        go_roundw
        case rel => exact ⟨k + 1, a5, c5, rs, by omega, by go_num, hr⟩
        case measure => simp [intOf]; omega
    · obtain rfl : k = n := by omega
      have HF : Hid (qs.map PgV.pg = ps.map PgV.pg) := by
        have := HT.out
        rw [List.take_of_length_le (by rw [HL.out]; exact Nat.le_refl _)] at this
        exact Lib.hid this
      obtain ⟨hRl, r0, e0⟩ := KR.out
      have hRG : w.heap.size + 1 ≠ G := by omega
      go_wp2
      refine bodyPost_ret (v := .agg #[.int .i64 root, .slice va k vc]) (by simp [results, Try.results60, go_sem, r0]) rfl ⟨_, qs, rfl, HF.out, ?_, ?_⟩
      · refine OwnP.mono (base' := w.heap.size + 2) ?_ (by omega)
        refine HO.out.frame _ _ (fun j h1 h2 => ?_) HO.out
        rw [Below.heap_setCell _ _ _ _ (by intro e; simp at e; omega), Below.heap_setCell _ _ _ _ (by intro e; simp at e; omega)]
      · exact (HB.out.setCell (p := ⟨w.heap.size + 1, 0, none⟩) (show w.heap.size ≤ w.heap.size + 1 by omega) _).setCell (p := ⟨w.heap.size + 1, 1, none⟩) (show w.heap.size ≤ w.heap.size + 1 by omega) _
end Go.Proofs.Ytfefggcfeppeiaa

/- The model's BookNew, NodeAt, Put. -/
namespace Go.Proofs.Ytfefggcfeppeiaa
open Go.RowKit

def zeroPg : Pg := ⟨false, false, []⟩
/-- The page of a number, or the zero one. -/
def pageAt (l : List Pg) (i : Int) : Pg := if 0 ≤ i then (l[i.toNat]?).getD zeroPg else zeroPg
theorem pageAt_no {l : List Pg} {i : Int} (h : ¬ (0 ≤ i ∧ i ≤ (l.length : Int) - 1)) : pageAt l i = zeroPg := by
  unfold pageAt
  split
  · rw [List.getElem?_eq_none (by omega)]; rfl
  · rfl
theorem pageAt_yes {ps : List PgV} {m : Nat} {p : PgV} (h : ps[m]? = some p) : pageAt (ps.map PgV.pg) m = p.pg := by
  unfold pageAt
  rw [if_pos (by omega), Int.toNat_natCast, List.getElem?_map, h]
  rfl

set_option maxRecDepth 100000 in
set_option maxHeartbeats 800000 in
theorem sBookNew_any (w : World) : Calls Try.prog 28 #[] w (NewBook 0 [⟨true, true, []⟩] w) := by
  have R := World.ownsRow_lit (base := w.heap.size + 1) (size := 3) (e := 48) (w.alloc (.cells #[.int .i64 0, .slice (some ⟨w.heap.size + 1, 0, none⟩) 1 1] 26)) #[.bool true, .bool true, .slice none 0 0] 1 (by simp) (by simp [maxLen]) rfl
  rw [show (w.alloc (.cells #[.int .i64 0, .slice (some ⟨w.heap.size + 1, 0, none⟩) 1 1] 26)).heap.size = w.heap.size + 1 by simp] at R
  have OP : Hid (OwnP ((w.alloc (.cells #[.int .i64 0, .slice (some ⟨w.heap.size + 1, 0, none⟩) 1 1] 26)).alloc (.cells #[.bool true, .bool true, .slice none 0 0] 48)) (w.heap.size + 1) (.slice (some ⟨w.heap.size + 1, 0, none⟩) 1 1) [⟨true, true, none, 0, 0, []⟩]) := by
    refine Lib.hid ⟨R, fun p hp => ?_, fun p hp => ?_, fun i j p q hij hp hq => ?_⟩
    · obtain rfl := List.mem_singleton.1 hp
      exact ownS_none _ _ _
    · obtain rfl := List.mem_singleton.1 hp
      exact (apart_none _ 0 0).1
    · obtain rfl := List.mem_singleton.1 (List.mem_of_getElem? hp)
      exact (apart_none _ 0 0).2
  have B0 : Hid (Below w.heap.size w ((w.alloc (.cells #[.int .i64 0, .slice (some ⟨w.heap.size + 1, 0, none⟩) 1 1] 26)).alloc (.cells #[.bool true, .bool true, .slice none 0 0] 48))) := Lib.hid (((Below.refl _ _).alloc (Nat.le_refl _) _).alloc (by simp) _)
  clear R
  go_enter Try.func28, Try.ntmps28
  go_wp2
  exact bodyPost_ret (v := .agg #[.int .i64 0, .slice (some ⟨w.heap.size + 1, 0, none⟩) 1 1]) (by simp [results, Try.results28, go_sem]) rfl ⟨_, [⟨true, true, none, 0, 0, []⟩], rfl, rfl, OP.out.mono (by omega), B0.out⟩

set_option maxRecDepth 100000 in
set_option maxHeartbeats 800000 in
theorem sNodeAt_any (root i : Int) (a : Option Addr) (n cap : Nat) (ps : List PgV) (w : World) (h : RdP w a n cap ps) (hi : (Lit.int .i64 i).wf = true) (hps : ∀ p ∈ ps, p.n ≤ 1099511627776) :
    Calls Try.prog 26 #[.agg #[.int .i64 root, .slice a n cap], .int .i64 i] w (NewNode (pageAt (ps.map PgV.pg) i).leaf (pageAt (ps.map PgV.pg) i).xs w) := by
  obtain ⟨l0, u0⟩ := bounds_i64 hi
  have hnc := h.1.1.2.1
  have hm := h.1.1.2.2.1
  unfold maxLen at hm
  have HL := Lib.hid h.1.1.1
  have K := Lib.hid (blk_new1 w (.cells #[.int .i64 root, .slice a n cap] 26) #[.bool false, .slice none 0 0] 32)
  have B0 : Below w.heap.size w ((w.alloc (.cells #[.int .i64 root, .slice a n cap] 26)).alloc (.cells #[.bool false, .slice none 0 0] 32)) := ((Below.refl _ _).alloc (Nat.le_refl _) _).alloc (by simp) _
  have HR := Lib.hid (h.below B0)
  replace B0 := Lib.hid B0
  clear h
  by_cases hin : 0 ≤ i ∧ i ≤ (n : Int) - 1
  · obtain ⟨h0, h1⟩ := hin
    obtain ⟨m, rfl⟩ := Int.eq_ofNat_of_zero_le h0
    obtain ⟨b, off, p, rfl, hbl, hp, hrd, d0, d1, d2⟩ := rdP_at HR.out (show m < n by omega)
    have hv : Hid (pageAt (ps.map PgV.pg) m = p.pg) := Lib.hid (pageAt_yes hp)
    have CC := Lib.hid (l5Copy_any p.leaf p.a p.n p.cap p.xs _ hrd (hps p (List.mem_of_getElem? hp)))
    have z1 : (m : Int) < n := by omega
    clear hp hrd hps
    go_enter Try.func26, Try.ntmps26
    go_wp2_with fail
    refine (l1In_yes m 0 ((n : Int) - 1) _ h0 h1).mono ?_
    rintro e w2 ⟨rfl, rfl⟩
    go_wp2_with fail
    refine CC.out.mono ?_
    rintro e w3 ⟨v, rfl, ho, hb⟩
    obtain ⟨k0, f0⟩ := below_keep hb (by simp) _ _ K.out
    obtain ⟨av, cv, rfl, -⟩ := ho.rd
    have s3 := hb.size
    simp at s3
    have HO := Lib.hid (OwnS.mono (base := w.heap.size + 2) ho (by simp))
    have HB := Lib.hid (B0.out.trans (hb.mono B0.out.size))
    clear ho hb
    go_wp2
    refine bodyPost_ret (v := .agg #[.bool p.leaf, .slice av p.xs.length cv]) (by simp [results, Try.results26, go_sem, k0]) rfl ?_
    rw [hv.out]
    refine ⟨_, rfl, ?_, ?_⟩
    · exact OwnS.mono (L := itLay) (ownS_set2 (ownS_set2 HO.out (by omega) _ _) (by omega) _ _) (by omega)
    · exact (HB.out.setCell (p := ⟨w.heap.size + 1, 0, none⟩) (show w.heap.size ≤ w.heap.size + 1 by omega) _).setCell (p := ⟨w.heap.size + 1, 1, none⟩) (show w.heap.size ≤ w.heap.size + 1 by omega) _
  · have hv : Hid (pageAt (ps.map PgV.pg) i = zeroPg) := Lib.hid (pageAt_no (by rw [List.length_map, HL.out]; exact hin))
    go_enter Try.func26, Try.ntmps26
    go_wp2_with fail
    refine (l1In_no i 0 ((n : Int) - 1) _ hin).mono ?_
    rintro e w2 ⟨rfl, rfl⟩
    go_wp2
    refine bodyPost_ret (v := .agg #[.bool false, .slice none 0 0]) (by simp [results, Try.results26, go_sem]) rfl ?_
    rw [hv.out]
    exact ⟨_, rfl, ownS_none _ _ _, B0.out⟩

/-- A book is handed back. -/
theorem book_end {w W : World} {q base n vc : Nat} {root : Int} {va : Option Addr} {qs : List PgV} {out : List Pg} (HO : OwnP W base (.slice va n vc) qs) (hq : qs.map PgV.pg = out) (B : Below w.heap.size w W) (h1 : w.heap.size ≤ q) (h2 : q < base) (hb : w.heap.size ≤ base) :
    NewBook root out w (.returned (.agg #[.int .i64 root, .slice va n vc])) ((W.setCell ⟨q, 0, none⟩ (.int .i64 root)).setCell ⟨q, 1, none⟩ (.slice va n vc)) := by
  refine ⟨_, qs, rfl, hq, OwnP.mono (base' := base) ?_ hb, (B.setCell (p := ⟨q, 0, none⟩) h1 _).setCell (p := ⟨q, 1, none⟩) h1 _⟩
  refine HO.frame _ _ (fun j h3 h4 => ?_) HO
  rw [Below.heap_setCell _ _ _ _ (by intro e; simp at e; omega), Below.heap_setCell _ _ _ _ (by intro e; simp at e; omega)]
theorem map_setP {ps qs : List PgV} {m : Nat} {x : PgV} (h : qs.map PgV.pg = ps.map PgV.pg) : (qs.set m x).map PgV.pg = (ps.map PgV.pg).set m x.pg := by rw [List.map_set, h]
/-- A page is written over another. -/
def putV (l : List Pg) (i : Int) (p : Pg) : List Pg := if 0 ≤ i ∧ i ≤ (l.length : Int) - 1 then l.set i.toNat p else l
theorem len_pg {ps qs : List PgV} (h : qs.map PgV.pg = ps.map PgV.pg) : qs.length = ps.length := by
  have := congrArg List.length h
  simpa using this

set_option maxRecDepth 100000 in
set_option maxHeartbeats 3200000 in
theorem sPut_any (root i : Int) (a : Option Addr) (n cap : Nat) (ps : List PgV) (b : Bool) (a' : Option Addr) (n' cap' : Nat) (xs : List It) (w : World) (h : RdP w a n cap ps) (h' : RdS itLay w a' n' cap' xs) (hi : (Lit.int .i64 i).wf = true) (hn : n ≤ 1099511627776) (hn' : n' ≤ 1099511627776) (hps : ∀ p ∈ ps, p.n ≤ 1099511627776) :
    Calls Try.prog 20 #[.agg #[.int .i64 root, .slice a n cap], .int .i64 i, .agg #[.bool b, .slice a' n' cap']] w (NewBook root (putV (ps.map PgV.pg) i ⟨true, b, xs⟩) w) := by
  obtain ⟨l0, u0⟩ := bounds_i64 hi
  have hnc := h.1.1.2.1
  have hm := h.1.1.2.2.1
  unfold maxLen at hm
  have HL := Lib.hid h.1.1.1
  obtain ⟨W0, hW0⟩ : ∃ W0, W0 = ((w.alloc (.cells #[.int .i64 root, .slice a n cap] 26)).alloc (.cells #[.bool b, .slice a' n' cap'] 32)).alloc (.cells #[.int .i64 0, .slice none 0 0] 26) := ⟨_, rfl⟩
  have hs0 : W0.heap.size = w.heap.size + 1 + 1 + 1 := by subst hW0; simp
  have B0 : Below w.heap.size w W0 := by subst hW0; exact (((Below.refl _ _).alloc (Nat.le_refl _) _).alloc (by simp) _).alloc (by simp; omega) _
  have KA : Loc W0 w.heap.size #[.int .i64 root, .slice a n cap] := by subst hW0; exact ((Loc.new w _ _).alloc _).alloc _
  have KN : Loc W0 (w.heap.size + 1) #[.bool b, .slice a' n' cap'] := by
    subst hW0
    have := (Loc.new (w.alloc (.cells #[.int .i64 root, .slice a n cap] 26)) #[.bool b, .slice a' n' cap'] 32).alloc (.cells #[.int .i64 0, .slice none 0 0] 26)
    rw [show (w.alloc (.cells #[.int .i64 root, .slice a n cap] 26)).heap.size = w.heap.size + 1 by simp] at this
    exact this
  have KR : Loc W0 (w.heap.size + 1 + 1) #[.int .i64 0, .slice none 0 0] := by
    subst hW0
    have := Loc.new ((w.alloc (.cells #[.int .i64 root, .slice a n cap] 26)).alloc (.cells #[.bool b, .slice a' n' cap'] 32)) #[.int .i64 0, .slice none 0 0] 26
    rw [show ((w.alloc (.cells #[.int .i64 root, .slice a n cap] 26)).alloc (.cells #[.bool b, .slice a' n' cap'] 32)).heap.size = w.heap.size + 1 + 1 by simp] at this
    exact this
  have CC := Lib.hid (l7Copy_any root a n cap ps W0 (h.below B0) hn hps)
  have HX := Lib.hid (h'.below B0)
  obtain ⟨-, a0, fa⟩ := KA
  have hW := Lib.hid hW0
  have K3 := Lib.hid (And.intro KN KR)
  have KA : Hid (Loc W0 w.heap.size #[.int .i64 root, .slice a n cap]) := Lib.hid ⟨by omega, a0, fa⟩
  replace B0 := Lib.hid B0
  clear h h' hps KN KR fa
  have ka0 := a0 0
  have ka1 := a0 1
  simp at ka0 ka1
  go_enter Try.func20, Try.ntmps20
  go_wp2_with fail
  rw [← hW0]
  clear hW0
  refine CC.out.mono ?_
  rintro e w3 ⟨v3, qs, rfl, hq, ho, hb⟩
  obtain ⟨va, vc, rfl⟩ := ho.shape
  have hql := len_pg hq
  rw [HL.out] at hql
  rw [hql]
  rw [hql] at ho
  have s3 := hb.size
  have HQ := Lib.hid hq
  have KG := Lib.hid (Loc.new w3 #[.int .i64 root, .slice va n vc] 26)
  have KA3 := Lib.hid ((KA.out.below hb).alloc (.cells #[.int .i64 root, .slice va n vc] 26))
  have KN3 := Lib.hid ((K3.out.1.below hb).alloc (.cells #[.int .i64 root, .slice va n vc] 26))
  have KR3 := Lib.hid ((K3.out.2.below hb).alloc (.cells #[.int .i64 root, .slice va n vc] 26))
  have HO := Lib.hid (ho.below (new_below w3 (.cells #[.int .i64 root, .slice va n vc] 26)))
  have HX3 := Lib.hid ((HX.out.below hb).below (new_below w3 (.cells #[.int .i64 root, .slice va n vc] 26)))
  have HB := Lib.hid ((B0.out.trans (hb.mono (by omega))).alloc (by omega) (.cells #[.int .i64 root, .slice va n vc] 26))
  have HOL := Lib.hid (show ∀ g, (Value.slice va n vc).ownBlock = some g → g < w3.heap.size from fun g hg => (World.ownsRow.lt ho.row g hg).2)
  have HEL := Lib.hid (show ∀ q ∈ qs, ∀ g, q.sl.ownBlock = some g → g < w3.heap.size from fun q hq g hg => (World.ownsRow.lt (ho.ent q hq) g hg).2)
  clear ho hq hb CC K3 KA HX B0 a0 ka0 ka1
  obtain ⟨-, g0, fg⟩ := KG.out
  obtain ⟨-, a0, -⟩ := KA3.out
  obtain ⟨hNl, n0, -⟩ := KN3.out
  obtain ⟨hRl, r0, fr⟩ := KR3.out
  have hRG : w.heap.size + 1 + 1 ≠ w3.heap.size := by omega
  by_cases hin : 0 ≤ i ∧ i ≤ (n : Int) - 1
  · obtain ⟨h0, h1⟩ := hin
    obtain ⟨m, rfl⟩ := Int.eq_ofNat_of_zero_le h0
    have hmn : m < n := by omega
    have hv : Hid (putV (ps.map PgV.pg) m ⟨true, b, xs⟩ = (ps.map PgV.pg).set m ⟨true, b, xs⟩) := by
      show putV _ _ _ = _
      unfold putV
      rw [if_pos (by rw [List.length_map, HL.out]; exact ⟨h0, h1⟩), Int.toNat_natCast]
    obtain ⟨gb, rfl⟩ : ∃ g, va = some ⟨g, 0, none⟩ := own_head (ownP_row HO.out (ownP_len HO.out)) (by omega)
    have hgb := HO.out.lt.1
    have hgl := HOL.out gb rfl
    have z1 : (m : Int) < n := by omega
    have CC := Lib.hid (l5Copy_any b a' n' cap' xs ((w3.alloc (.cells #[.int .i64 root, .slice (some ⟨gb, 0, none⟩) n vc] 26))).drew (HX3.out.below (drew_below _)) hn')
    have hrow := Lib.hid (HO.out.below (drew_below _))
    have e1 := g0 1
    simp at e1
    have nn0 := n0 0
    have nn1 := n0 1
    simp at nn0 nn1
    go_wp2_with fail
    refine (l1In_yes m 0 ((n : Int) - 1) _ h0 h1).mono ?_
    rintro e w4 ⟨rfl, rfl⟩
    go_wp2_with fail
    go_region_law (refine step_go rfl 68 _ _ rfl #[.agg #[.bool b, .slice a' n' cap']] (by first | (simp [Act.eval]; done) | (simp [Act.eval, Act.put]; done)) (enters_of Try.func68 (by kernel_rfl) rfl) (R := fun v w' => ∃ u, v = .agg #[.bool b, u] ∧ OwnS itLay 92 w' ((w3.alloc (.cells #[.int .i64 root, .slice (some ⟨gb, 0, none⟩) n vc] 26))).drew.heap.size u xs ∧ Below ((w3.alloc (.cells #[.int .i64 root, .slice (some ⟨gb, 0, none⟩) n vc] 26))).drew.heap.size ((w3.alloc (.cells #[.int .i64 root, .slice (some ⟨gb, 0, none⟩) n vc] 26))).drew w') (CC.out.mono (fun e w' ⟨u, he, o, bb⟩ => ⟨_, he, u, rfl, o, bb⟩)) ?_; rintro v w5 ⟨u5, rfl, o5, b5⟩; obtain ⟨a5, c5, rfl, -⟩ := OwnS.rd o5; have P5 := Lib.hid (hrow.out.below b5); obtain ⟨y, hy, q0, q1, q2⟩ := ownP_at P5.out hmn; have fz := P5.out.froz; have L5 := Lib.hid ((KG.out.drew).below b5); have l5 := L5.out.2.1 1; simp at l5; have R5 := Lib.hid ((KR3.out.drew).below b5); have B5 := Lib.hid b5; have O5 := Lib.hid o5; have hgl5 := P5.out.lt.2; clear o5 b5 hy)
    all_goals
      have s5 := B5.out.size
      have e0 : ((w3.alloc (.cells #[.int .i64 root, .slice (some ⟨gb, 0, none⟩) n vc] 26))).drew.heap.size = w3.heap.size + 1 := by show ((w3.alloc (.cells #[.int .i64 root, .slice (some ⟨gb, 0, none⟩) n vc] 26))).heap.size = _; simp
      have P6 : Hid (OwnP (((w5.setCell ⟨gb, m * 3, none⟩ (.bool true)).setCell ⟨gb, m * 3 + 1, none⟩ (.bool b)).setCell ⟨gb, m * 3 + 1 + 1, none⟩ (.slice a5 xs.length c5)) W0.heap.size (.slice (some ⟨gb, 0, none⟩) n vc) (qs.set m ⟨true, b, a5, xs.length, c5, xs⟩)) := by
        have ho : ∀ g, (PgV.sl ⟨true, b, a5, xs.length, c5, xs⟩).ownBlock = some g → w3.heap.size + 1 ≤ g := fun g hg => by
          have := (World.ownsRow.lt O5.out g hg).1
          omega
        refine Lib.hid (P5.out.set m ⟨true, b, a5, xs.length, c5, xs⟩ (by rw [ownP_len P5.out]; exact hmn) rfl (O5.out.mono (by omega)) (fun g h3 h4 => ?_) (fun j q _ hq g h3 h4 => ?_))
        · have h5 := ho g h4
          have e : gb = g := by simpa [Value.ownBlock] using h3
          omega
        · have h5 := ho g h4
          have h6 := HEL.out q (List.mem_of_getElem? hq) g h3
          omega
      have M6 : Hid ((qs.set m ⟨true, b, a5, xs.length, c5, xs⟩).map PgV.pg = (ps.map PgV.pg).set m ⟨true, b, xs⟩) := Lib.hid (map_setP HQ.out)
      have B6 : Hid (Below w.heap.size w (((w5.setCell ⟨gb, m * 3, none⟩ (.bool true)).setCell ⟨gb, m * 3 + 1, none⟩ (.bool b)).setCell ⟨gb, m * 3 + 1 + 1, none⟩ (.slice a5 xs.length c5))) := by
        have h3 : w.heap.size ≤ gb := by omega
        exact Lib.hid (((((HB.out.drew).trans (B5.out.mono (by omega))).setCell (p := ⟨gb, m * 3, none⟩) h3 _).setCell (p := ⟨gb, m * 3 + 1, none⟩) h3 _).setCell (p := ⟨gb, m * 3 + 1 + 1, none⟩) h3 _)
      have G6 := ((L5.out.other (m * 3) (.bool true) (show gb ≠ w3.heap.size by omega)).other (m * 3 + 1) (.bool b) (show gb ≠ w3.heap.size by omega)).other (m * 3 + 1 + 1) (.slice a5 xs.length c5) (show gb ≠ w3.heap.size by omega)
      have R6 := ((R5.out.other (m * 3) (.bool true) (show gb ≠ w.heap.size + 1 + 1 by omega)).other (m * 3 + 1) (.bool b) (show gb ≠ w.heap.size + 1 + 1 by omega)).other (m * 3 + 1 + 1) (.slice a5 xs.length c5) (show gb ≠ w.heap.size + 1 + 1 by omega)
      obtain ⟨-, x0, -⟩ := G6
      obtain ⟨hR6, y0, fy⟩ := R6
      go_wp2
      refine bodyPost_ret (v := .agg #[.int .i64 root, .slice (some ⟨gb, 0, none⟩) n vc]) (by simp [results, Try.results20, go_sem, y0]) rfl ?_
      rw [hv.out]
      exact book_end P6.out M6.out B6.out (by omega) (by omega) (by omega)
  · have hv : Hid (putV (ps.map PgV.pg) i ⟨true, b, xs⟩ = ps.map PgV.pg) := Lib.hid (if_neg (by rw [List.length_map, HL.out]; exact hin))
    go_wp2_with fail
    refine (l1In_no i 0 ((n : Int) - 1) _ hin).mono ?_
    rintro e w4 ⟨rfl, rfl⟩
    go_wp2
    refine bodyPost_ret (v := .agg #[.int .i64 root, .slice va n vc]) (by simp [results, Try.results20, go_sem, r0]) rfl ?_
    rw [hv.out]
    exact book_end HO.out HQ.out HB.out (by omega) (by omega) (by omega)
end Go.Proofs.Ytfefggcfeppeiaa

/- Where in a slice of items an Id stands. -/
namespace Go.Proofs.Ytfefggcfeppeiaa
open Go.RowKit

def atV (id : Int) : List It → Int → Int
  | [], _ => -1
  | x :: l, k => if x.id = id then k else atV id l (k + 1)
theorem drop_at {xs : List It} {k : Nat} {x : It} (hx : xs[k]? = some x) : xs.drop k = x :: xs.drop (k + 1) := by
  obtain ⟨hlt, rfl⟩ := List.getElem?_eq_some_iff.1 hx
  exact List.drop_eq_getElem_cons hlt
theorem atV_yes {xs : List It} {k : Nat} {x : It} (id : Int) (hx : xs[k]? = some x) (h : x.id = id) : atV id (xs.drop k) k = k := by rw [drop_at hx, atV, if_pos h]
theorem atV_no {xs : List It} {k : Nat} {x : It} (id : Int) (hx : xs[k]? = some x) (h : x.id ≠ id) : atV id (xs.drop k) k = atV id (xs.drop (k + 1)) ((k + 1 : Nat) : Int) := by rw [drop_at hx, atV, if_neg h]; simp
theorem atV_end (xs : List It) (n : Nat) (id : Int) (h : xs.length ≤ n) : atV id (xs.drop n) n = -1 := by rw [List.drop_eq_nil_of_le h]; rfl
theorem ret_i64' {a b : Int} (h : a = b) : Ending.returned (.int .i64 a) = .returned (.int .i64 b) := by rw [h]

set_option maxRecDepth 100000 in
set_option maxHeartbeats 800000 in
theorem sItemAt_any (a : Option Addr) (n cap : Nat) (xs : List It) (id : Int) (w : World) (h : RdS itLay w a n cap xs) :
    Calls Try.prog 79 #[.slice a n cap, .int .i64 id] w fun e w' => e = .returned (.int .i64 (atV id xs 0)) ∧ Below w.heap.size w w' := by
  have hm := h.1.2.2.1
  have hnc := h.1.2.1
  unfold maxLen at hm
  have HR := Lib.hid h
  have HL := Lib.hid h.1.1
  clear h
  go_enter Try.func79, Try.ntmps79
  go_wp2
  go_loopw [5] (fun i wr => ∃ k : Nat, k ≤ n ∧ i = .int .i64 k ∧ atV id xs 0 = atV id (xs.drop k) k ∧ wr = w) (fun i _ => n - (intOf i).toNat)
  case atStart => exact ⟨0, Nat.zero_le _, rfl, rfl, rfl⟩
  case round =>
    obtain ⟨k, hk, rfl, hA, rfl⟩ := hrel
    have HA := Lib.hid hA
    clear hA
    by_cases hlt : k < n
    · obtain ⟨b, off, x, rfl, hbl, hx, d0, d1, d2, d3, d4⟩ := rdIt_at HR.out hlt
      have HX := Lib.hid hx
      have z0 : (0 : Int) ≤ k := by omega
      have z1 : (k : Int) < n := by omega
      clear hx
      by_cases h : x.id = id
      · have hr := Lib.hid (HA.out.trans (atV_yes id HX.out h))
        have h' : (x.id == id) = true := by simpa using h
        clear h
        go_wp2
        go_ret
        exact ⟨ret_i64' hr.out.symm, Below.refl _ _⟩
      · have hr := Lib.hid (HA.out.trans (atV_no id HX.out h))
        have h' : (x.id == id) = false := by simpa using h
        clear h
        go_wp2
        go_roundw
        case rel => exact ⟨k + 1, by omega, by go_num, hr.out, by trivial⟩
        case measure => simp [intOf]; omega
    · have hr : Hid (atV id xs 0 = -1) := by
        obtain rfl : k = n := by omega
        exact HA.out.trans (atV_end xs k id (by rw [HL.out]; exact Nat.le_refl _))
      go_wp2
      go_ret
      exact ⟨ret_i64' hr.out.symm, Below.refl _ _⟩
end Go.Proofs.Ytfefggcfeppeiaa

/- The model's Alloc and Free. -/
namespace Go.Proofs.Ytfefggcfeppeiaa
open Go.RowKit
attribute [local go_sem ↓] Go.wp_at_zero Go.wp_at_succ

def leafPg : Pg := ⟨true, true, []⟩
/-- Alloc: the pages, and the number of the one that was taken; -1 if there is none. -/
def allocV (l : List Pg) : List Pg × Int := match l.findIdx? (fun p => !p.used) with
  | some i => (l.set i leafPg, i)
  | none => if 48 ≤ l.length then (l, -1) else (l ++ [leafPg], l.length)
theorem free_at {ps : List PgV} {k : Nat} {p : PgV} (h : ∀ j q, j < k → ps[j]? = some q → q.used = true) (hp : ps[k]? = some p) (hu : p.used = false) : allocV (ps.map PgV.pg) = ((ps.map PgV.pg).set k leafPg, (k : Int)) := by
  have e : (ps.map PgV.pg).findIdx? (fun p => !p.used) = some k := by
    rw [List.findIdx?_eq_some_iff_getElem]
    obtain ⟨hk, rfl⟩ := List.getElem?_eq_some_iff.1 hp
    refine ⟨by simpa using hk, by simp [PgV.pg, hu], fun j hj => ?_⟩
    have := h j (ps[j]'(by omega)) hj (List.getElem?_eq_getElem _)
    simp [PgV.pg, this]
  unfold allocV
  rw [e]
theorem free_none {ps : List PgV} (h : ∀ j q, j < ps.length → ps[j]? = some q → q.used = true) : allocV (ps.map PgV.pg) = if 48 ≤ ps.length then (ps.map PgV.pg, -1) else (ps.map PgV.pg ++ [leafPg], (ps.length : Int)) := by
  have e : (ps.map PgV.pg).findIdx? (fun p => !p.used) = none := by
    rw [List.findIdx?_eq_none_iff]
    intro x hx
    obtain ⟨q, hq, rfl⟩ := List.mem_map.1 hx
    obtain ⟨j, hj⟩ := List.mem_iff_getElem?.1 hq
    have := h j q (List.getElem?_eq_some_iff.1 hj).1 hj
    simp [PgV.pg, this]
  unfold allocV
  rw [e]
  simp
/-- A book in new memory and a number. -/
def NewBookI (root : Int) (o : List Pg × Int) (w : World) (e : Ending) (w' : World) : Prop :=
  ∃ v ps, e = .returned (.tuple #[.agg #[.int .i64 root, v], .int .i64 o.2]) ∧ ps.map PgV.pg = o.1 ∧ OwnP w' w.heap.size v ps ∧ Below w.heap.size w w'
theorem OwnP.store {w : World} {base q : Nat} {v : Value} {ps : List PgV} (h : OwnP w base v ps) (t : TagT 26 w q) (j : Nat) (u : Value) : OwnP (w.setCell ⟨q, j, none⟩ u) base v ps := by
  have hG := grown_setCell (World.grownBy.refl w (some q)) q j u rfl
  exact ⟨OwnS.kept h.row hG (own_ne (t.ne h.row (by decide))), fun p hp => OwnS.kept (h.ent p hp) hG (own_ne (t.ne (h.ent p hp) (by decide))), h.out, h.pair⟩
theorem bookI_end {w W : World} {q base n vc : Nat} {root : Int} {va : Option Addr} {qs : List PgV} {o : List Pg × Int} {i : Int} (HO : OwnP W base (.slice va n vc) qs) (hq : qs.map PgV.pg = o.1) (hi : o.2 = i) (B : Below w.heap.size w W) (h1 : w.heap.size ≤ q) (h2 : q < base) (hb : w.heap.size ≤ base) :
    NewBookI root o w (.returned (.tuple #[.agg #[.int .i64 root, .slice va n vc], .int .i64 i])) ((W.setCell ⟨q, 0, none⟩ (.int .i64 root)).setCell ⟨q, 1, none⟩ (.slice va n vc)) := by
  obtain ⟨v, ps, he, hp, ho, hB⟩ := book_end (root := root) HO hq B h1 h2 hb
  refine ⟨v, ps, ?_, hp, ho, hB⟩
  simp only [Ending.returned.injEq, Value.agg.injEq] at he
  rw [he, hi]
theorem bookI_drew {w W : World} {root : Int} {o : List Pg × Int} {e : Ending} (h : NewBookI root o w e W) : NewBookI root o w e W.drew := by
  obtain ⟨v, ps, he, hp, ho, hB⟩ := h
  exact ⟨v, ps, he, hp, ho.below (drew_below _), hB.drew⟩

set_option maxRecDepth 100000 in
set_option maxHeartbeats 3200000 in
theorem sAlloc_any (root : Int) (a : Option Addr) (n cap : Nat) (ps : List PgV) (w : World) (h : RdP w a n cap ps) (hn : n ≤ 1099511627776) (hps : ∀ p ∈ ps, p.n ≤ 1099511627776) :
    Calls Try.prog 13 #[.agg #[.int .i64 root, .slice a n cap]] w (NewBookI root (allocV (ps.map PgV.pg)) w) := by
  have hnc := h.1.1.2.1
  have hm := h.1.1.2.2.1
  unfold maxLen at hm
  have HL := Lib.hid h.1.1.1
  obtain ⟨W0, hW0⟩ : ∃ W0, W0 = (w.alloc (.cells #[.int .i64 root, .slice a n cap] 26)).alloc (.cells #[.int .i64 0, .slice none 0 0] 26) := ⟨_, rfl⟩
  have hs0 : W0.heap.size = w.heap.size + 1 + 1 := by subst hW0; simp
  have B0 : Below w.heap.size w W0 := by subst hW0; exact ((Below.refl _ _).alloc (Nat.le_refl _) _).alloc (by simp) _
  have KA : Loc W0 w.heap.size #[.int .i64 root, .slice a n cap] := by subst hW0; exact (Loc.new w _ _).alloc _
  have KR : Loc W0 (w.heap.size + 1) #[.int .i64 0, .slice none 0 0] := by
    subst hW0
    have := Loc.new (w.alloc (.cells #[.int .i64 root, .slice a n cap] 26)) #[.int .i64 0, .slice none 0 0] 26
    rw [show (w.alloc (.cells #[.int .i64 root, .slice a n cap] 26)).heap.size = w.heap.size + 1 by simp] at this
    exact this
  have HR0 := h.below B0
  have CC := Lib.hid (l7Copy_any root a n cap ps W0 HR0 hn hps)
  have HR := Lib.hid HR0
  have a0 := KA.2.1
  replace KA := Lib.hid KA
  replace KR := Lib.hid KR
  replace B0 := Lib.hid B0
  have ka0 := a0 0
  have ka1 := a0 1
  simp at ka0 ka1
  clear h hps HR0 a0
  go_enter Try.func13, Try.ntmps13
  go_wp2_with fail
  rw [← hW0]
  clear hW0
  refine CC.out.mono ?_
  rintro e w3 ⟨v3, qs, rfl, hq, ho, hb⟩
  obtain ⟨va, vc, rfl⟩ := ho.shape
  have hql := len_pg hq
  rw [HL.out] at hql
  rw [hql]
  rw [hql] at ho
  have s3 := hb.size
  have HQ := Lib.hid hq
  have KG := Lib.hid (Loc.new w3 #[.int .i64 root, .slice va n vc] 26)
  have TG := Lib.hid (TagT.new 26 w3 #[.int .i64 root, .slice va n vc])
  have KA3 := Lib.hid ((KA.out.below hb).alloc (.cells #[.int .i64 root, .slice va n vc] 26))
  have KR3 := Lib.hid ((KR.out.below hb).alloc (.cells #[.int .i64 root, .slice va n vc] 26))
  have HR3 := Lib.hid ((HR.out.below hb).below (new_below w3 (.cells #[.int .i64 root, .slice va n vc] 26)))
  have HO := Lib.hid (ho.below (new_below w3 (.cells #[.int .i64 root, .slice va n vc] 26)))
  have HB := Lib.hid ((B0.out.trans (hb.mono (by omega))).alloc (by omega) (.cells #[.int .i64 root, .slice va n vc] 26))
  have HOL := Lib.hid (show ∀ g, (Value.slice va n vc).ownBlock = some g → g < w3.heap.size from fun g hg => (World.ownsRow.lt ho.row g hg).2)
  clear ho hq hb CC KA KR B0 ka0 ka1 HR
  have hs1 : w.heap.size + 1 < W0.heap.size := by omega
  replace hs0 := Lib.hid hs0
  obtain ⟨W4, hW4⟩ : ∃ W4, W4 = w3.alloc (.cells #[.int .i64 root, .slice va n vc] 26) := ⟨_, rfl⟩
  rw [← hW4] at KG TG KA3 KR3 HR3 HO HB
  have hs4 : w3.heap.size < W4.heap.size := by rw [hW4]; simp
  obtain ⟨-, g0, fg⟩ := KG.out
  obtain ⟨-, a0, -⟩ := KA3.out
  obtain ⟨hRl, r0, fr⟩ := KR3.out
  have hRG : w.heap.size + 1 ≠ w3.heap.size := by omega
  go_wp2
  rw [← hW4]
  replace hW4 := Lib.hid hW4
  go_loopw [5] (fun i wr => ∃ k : Nat, k ≤ n ∧ i = .int .i64 (k : Int) ∧ Hid (∀ j q, j < k → ps[j]? = some q → q.used = true) ∧ wr = W4) (fun i _ => n - (intOf i).toNat)
  case atStart => exact ⟨0, Nat.zero_le _, rfl, Lib.hid (fun j q hj => by omega), rfl⟩
  case round =>
    obtain ⟨k, hk, rfl, HU, rfl⟩ := hrel
    by_cases hlt : k < n
    · obtain ⟨b, off, p, rfl, hbl, hp, hrd, d0, d1, d2⟩ := rdP_at HR3.out hlt
      have HP := Lib.hid hp
      have z0 : (0 : Int) ≤ k := by omega
      have z1 : (k : Int) < n := by omega
      clear hp hrd
      cases hu : p.used with
      | true =>
        rw [hu] at d0
        have HU2 : Hid (∀ j q, j < k + 1 → ps[j]? = some q → q.used = true) := Lib.hid (fun j q hj hq => by
          by_cases hjk : j < k
          · exact HU.out j q hjk hq
          · obtain rfl : j = k := by omega
            obtain rfl : p = q := Option.some.inj (HP.out.symm.trans hq)
            exact hu)
        clear hu
        go_wp2
        go_roundw
        case rel => exact ⟨k + 1, by omega, by go_num, HU2, by trivial⟩
        case measure => simp [intOf]; omega
      | false =>
        rw [hu] at d0
        have hv : Hid (allocV (ps.map PgV.pg) = ((ps.map PgV.pg).set k leafPg, (k : Int))) := Lib.hid (free_at HU.out HP.out hu)
        obtain ⟨gb, rfl⟩ : ∃ g, va = some ⟨g, 0, none⟩ := own_head (ownP_row HO.out (ownP_len HO.out)) (by omega)
        have hgb := HO.out.lt
        have hgl := HOL.out gb rfl
        obtain ⟨y, hy, q0, q1, q2⟩ := ownP_at HO.out hlt
        have fz := HO.out.froz
        have P6 : Hid (OwnP (((wr.setCell ⟨gb, k * 3, none⟩ (.bool true)).setCell ⟨gb, k * 3 + 1, none⟩ (.bool true)).setCell ⟨gb, k * 3 + 1 + 1, none⟩ (.slice none 0 0)) W0.heap.size (.slice (some ⟨gb, 0, none⟩) n vc) (qs.set k ⟨true, true, none, 0, 0, []⟩)) :=
          Lib.hid (HO.out.set k ⟨true, true, none, 0, 0, []⟩ (by rw [ownP_len HO.out]; exact hlt) rfl (ownS_none _ _ _) (apart_none _ 0 0).1 (fun _ _ _ _ => (apart_none _ 0 0).1))
        have M6 : Hid ((qs.set k ⟨true, true, none, 0, 0, []⟩).map PgV.pg = (ps.map PgV.pg).set k leafPg) := Lib.hid (map_setP HQ.out)
        have h3 : w.heap.size ≤ gb := by omega
        have B6 := Lib.hid (((HB.out.setCell (p := ⟨gb, k * 3, none⟩) h3 (.bool true)).setCell (p := ⟨gb, k * 3 + 1, none⟩) h3 (.bool true)).setCell (p := ⟨gb, k * 3 + 1 + 1, none⟩) h3 (.slice none 0 0))
        obtain ⟨-, x0, -⟩ := ((KG.out.other (k * 3) (.bool true) (show gb ≠ w3.heap.size by omega)).other (k * 3 + 1) (.bool true) (show gb ≠ w3.heap.size by omega)).other (k * 3 + 1 + 1) (.slice none 0 0) (show gb ≠ w3.heap.size by omega)
        obtain ⟨hR6, y0, fy⟩ := ((KR3.out.other (k * 3) (.bool true) (show gb ≠ w.heap.size + 1 by omega)).other (k * 3 + 1) (.bool true) (show gb ≠ w.heap.size + 1 by omega)).other (k * 3 + 1 + 1) (.slice none 0 0) (show gb ≠ w.heap.size + 1 by omega)
        clear hu hy
        go_wp2
        refine bodyPost_ret (v := .tuple #[.agg #[.int .i64 root, .slice (some ⟨gb, 0, none⟩) n vc], .int .i64 k]) (by simp [results, Try.results13, go_sem, y0]) rfl ?_
        exact bookI_end P6.out (by rw [hv.out]; exact M6.out) (by rw [hv.out]) B6.out (by omega) (by omega) (by omega)
    · obtain rfl : k = n := by omega
      have hf := free_none (ps := ps) (fun j q hj hq => HU.out j q (by rw [HL.out] at hj; exact hj) hq)
      rw [HL.out] at hf
      by_cases h48 : 48 ≤ k
      · rw [if_pos h48] at hf
        have hv := Lib.hid hf
        have z48 : (k : Int) ≥ 48 := by omega
        clear hf
        go_wp2
        refine bodyPost_ret (v := .tuple #[.agg #[.int .i64 root, .slice va k vc], .int .i64 (-1)]) (by simp [results, Try.results13, go_sem, r0]) rfl ?_
        exact bookI_end HO.out (by rw [hv.out]; exact HQ.out) (by rw [hv.out]) HB.out (by omega) (by omega) (by omega)
      · rw [if_neg h48] at hf
        have hv := Lib.hid hf
        have z48 : ¬ (k : Int) ≥ 48 := by omega
        clear hf
        obtain ⟨i0, hi, hz0, hz1, hz2⟩ := info_parts Try.infoPage
        replace hi := Lib.hid hi
        replace hz0 := Lib.hid hz0
        replace hz1 := Lib.hid hz1
        replace hz2 := Lib.hid hz2
        have HQL := Lib.hid (ownP_len HO.out)
        have HNW := Lib.hid (World.news_of_block (cs := #[.bool true, .bool true, .slice none 0 0]) (t := 48) (fr := (0, 0)) (heap_alloc_new wr (.cells #[.bool true, .bool true, .slice none 0 0] 48)))
        have c1 := g0 1
        simp at c1
        have l1 := (World.cell?_alloc_lt wr (.cells #[.bool true, .bool true, .slice none 0 0] 48) ⟨w3.heap.size, 1, none⟩ hs4).trans c1
        go_wp2_with (at_builtin; refine append_src rfl (.tmp 36) (.tmp 39) 24 rfl W0.heap.size 48 i0 _ 3 40 Try.underlying24 hi.out hz0.out hz1.out hz2.out rfl (by decide) (.slice va k vc) k (qs.flatMap pgLay.cells) rfl (World.ownsRow.alloc (ownP_row HO.out HQL.out) _) (some ⟨wr.heap.size, 0, none⟩) 1 1 (pgLay.cells ⟨true, true, none, 0, 0, []⟩) rfl rfl (fun h => by cases h) (fun q hq => by cases hq; exact HNW.out) (pgLay.one _) ?_ ?_ ?_ ?_)
        case refine_1 => unfold maxLen; omega
        case refine_2 => omega
        case refine_3 => first | omega | (simp; omega)
        intro v5 w5 o5 g5
        obtain ⟨a5, c5, rfl⟩ := owns_shape o5
        have P5 : OwnP w5 W0.heap.size (.slice a5 (k + 1) c5) (qs ++ [⟨true, true, none, 0, 0, []⟩]) := OwnP.snoc (w := wr) (w1 := wr.alloc (.cells #[.bool true, .bool true, .slice none 0 0] 48)) HO.out (new_below _ _) (ownS_none _ _ _) (fun g hg => (by cases hg)) (by rw [HQL.out]; exact o5) g5
        have hrow : ∀ j, (Value.slice va k vc).ownBlock = some j → W0.heap.size ≤ j ∧ j ≠ w3.heap.size := fun j hj => ⟨(World.ownsRow.lt HO.out.row j hj).1, TG.out.ne HO.out.row (by decide) j hj⟩
        have L5 := (KG.out.alloc (.cells #[.bool true, .bool true, .slice none 0 0] 48)).grown g5 (fun j hj => (hrow j hj).2)
        have T5 : TagT 26 w5 w3.heap.size := TG.out.of ((g5.block _ (by simp; omega) (fun e => (hrow _ e.symm).2 rfl)).trans (Below.heap_alloc _ _ _ (by omega)))
        have P6 := Lib.hid (P5.store T5 1 (.slice a5 (k + 1) c5))
        have M6 : Hid ((qs ++ [(⟨true, true, none, 0, 0, []⟩ : PgV)]).map PgV.pg = ps.map PgV.pg ++ [leafPg]) := by
          show _ = _
          rw [List.map_append, HQ.out]
          rfl
        have A5 := (KA3.out.alloc (.cells #[.bool true, .bool true, .slice none 0 0] 48)).grown g5 (fun j hj => by have := (hrow j hj).1; omega)
        have R5 := (KR3.out.alloc (.cells #[.bool true, .bool true, .slice none 0 0] 48)).grown g5 (fun j hj => by have := (hrow j hj).1; omega)
        have hsl := g5.size
        try simp at hsl
        have B6 : Hid (Below w.heap.size w (w5.setCell ⟨w3.heap.size, 1, none⟩ (.slice a5 (k + 1) c5))) := Lib.hid (((HB.out.alloc (by omega) (.cells #[.bool true, .bool true, .slice none 0 0] 48)).grown g5 (by simp; omega) (fun j hj => by have := (hrow j hj).1; omega)).setCell (p := ⟨w3.heap.size, 1, none⟩) (show w.heap.size ≤ w3.heap.size by omega) _)
        obtain ⟨hx0, x0, ex⟩ := L5.set 1 (.slice a5 (k + 1) c5) (by show 1 < 2; decide)
        obtain ⟨-, u0, -⟩ := A5.other 1 (.slice a5 (k + 1) c5) (show w3.heap.size ≠ w.heap.size by omega)
        obtain ⟨hy0, y0, fy⟩ := R5.other 1 (.slice a5 (k + 1) c5) (show w3.heap.size ≠ w.heap.size + 1 by omega)
        obtain ⟨-, x5, fx5⟩ := L5
        obtain ⟨-, u5, -⟩ := A5
        obtain ⟨hR5, y5, fy5⟩ := R5
        clear o5 g5 P5 hrow T5 g0 fg a0 r0 fr
        go_wp2_with fail
        go_region
        all_goals
          go_wp2
          refine bodyPost_ret (v := .tuple #[.agg #[.int .i64 root, .slice a5 (k + 1) c5], .int .i64 k]) (by simp [results, Try.results13, go_sem, y0]) rfl ?_
          exact bookI_drew (bookI_end P6.out (by rw [hv.out]; exact M6.out) (by rw [hv.out]) B6.out (by omega) (by omega) (by omega))

/-- Free: the pages of these numbers are unused. -/
def freeV (l : List Pg) (ids : List Int) : List Pg := ids.foldl (fun acc i => putV acc i zeroPg) l
theorem freeV_more {l : List Pg} {ids : List Int} {k : Nat} {i : Int} (h : ids[k]? = some i) : freeV l (ids.take (k + 1)) = putV (freeV l (ids.take k)) i zeroPg := by
  unfold freeV
  rw [List.take_add_one, h, List.foldl_append]
  rfl
theorem OwnP.drew {w : World} {base : Nat} {v : Value} {ps : List PgV} (h : OwnP w base v ps) : OwnP w.drew base v ps := h.below (drew_below _)
theorem putV_no {l : List Pg} {i : Int} {p : Pg} (h : ¬ (0 ≤ i ∧ i ≤ (l.length : Int) - 1)) : putV l i p = l := if_neg h
theorem putV_yes {l : List Pg} {m : Nat} {p : Pg} (h : m < l.length) : putV l m p = l.set m p := by
  unfold putV
  rw [if_pos (by omega), Int.toNat_natCast]

set_option maxRecDepth 100000 in
set_option maxHeartbeats 3200000 in
theorem sFree_any (root : Int) (a : Option Addr) (n cap : Nat) (ps : List PgV) (al : Option Addr) (nl cl : Nat) (ids : List Int) (w : World) (h : RdP w a n cap ps) (hl : RdI .i64 w al nl cl ids) (hn : n ≤ 1099511627776) (hps : ∀ p ∈ ps, p.n ≤ 1099511627776) :
    Calls Try.prog 22 #[.agg #[.int .i64 root, .slice a n cap], .slice al nl cl] w (NewBook root (freeV (ps.map PgV.pg) ids) w) := by
  have hnl := hl.1.2.1
  have hml := hl.1.2.2.1
  unfold maxLen at hml
  have HI := Lib.hid hl
  have HIL := Lib.hid hl.1.1
  clear hl
  have hnc := h.1.1.2.1
  have hm := h.1.1.2.2.1
  unfold maxLen at hm
  have HL := Lib.hid h.1.1.1
  obtain ⟨W0, hW0⟩ : ∃ W0, W0 = (w.alloc (.cells #[.int .i64 root, .slice a n cap] 26)).alloc (.cells #[.int .i64 0, .slice none 0 0] 26) := ⟨_, rfl⟩
  have hs0 : W0.heap.size = w.heap.size + 1 + 1 := by subst hW0; simp
  have B0 : Below w.heap.size w W0 := by subst hW0; exact ((Below.refl _ _).alloc (Nat.le_refl _) _).alloc (by simp) _
  have KA : Loc W0 w.heap.size #[.int .i64 root, .slice a n cap] := by subst hW0; exact (Loc.new w _ _).alloc _
  have KR : Loc W0 (w.heap.size + 1) #[.int .i64 0, .slice none 0 0] := by
    subst hW0
    have := Loc.new (w.alloc (.cells #[.int .i64 root, .slice a n cap] 26)) #[.int .i64 0, .slice none 0 0] 26
    rw [show (w.alloc (.cells #[.int .i64 root, .slice a n cap] 26)).heap.size = w.heap.size + 1 by simp] at this
    exact this
  have HR0 := h.below B0
  have CC := Lib.hid (l7Copy_any root a n cap ps W0 HR0 hn hps)
  have HR := Lib.hid HR0
  have a0 := KA.2.1
  replace KA := Lib.hid KA
  replace KR := Lib.hid KR
  replace B0 := Lib.hid B0
  have ka0 := a0 0
  have ka1 := a0 1
  simp at ka0 ka1
  clear h hps HR0 a0
  go_enter Try.func22, Try.ntmps22
  go_wp2_with fail
  rw [← hW0]
  clear hW0
  refine CC.out.mono ?_
  rintro e w3 ⟨v3, qs, rfl, hq, ho, hb⟩
  obtain ⟨va, vc, rfl⟩ := ho.shape
  have hql := len_pg hq
  rw [HL.out] at hql
  rw [hql]
  rw [hql] at ho
  have s3 := hb.size
  have HQ := Lib.hid hq
  have KG := Lib.hid (Loc.new w3 #[.int .i64 root, .slice va n vc] 26)
  have TG := Lib.hid (TagT.new 26 w3 #[.int .i64 root, .slice va n vc])
  have KA3 := Lib.hid ((KA.out.below hb).alloc (.cells #[.int .i64 root, .slice va n vc] 26))
  have KR3 := Lib.hid ((KR.out.below hb).alloc (.cells #[.int .i64 root, .slice va n vc] 26))
  have HR3 := Lib.hid ((HR.out.below hb).below (new_below w3 (.cells #[.int .i64 root, .slice va n vc] 26)))
  have HO := Lib.hid (ho.below (new_below w3 (.cells #[.int .i64 root, .slice va n vc] 26)))
  have HB := Lib.hid ((B0.out.trans (hb.mono (by omega))).alloc (by omega) (.cells #[.int .i64 root, .slice va n vc] 26))
  have HOL := Lib.hid (show ∀ g, (Value.slice va n vc).ownBlock = some g → g < w3.heap.size from fun g hg => (World.ownsRow.lt ho.row g hg).2)
  clear ho hq hb CC KA KR B0 ka0 ka1 HR
  have hs1 : w.heap.size + 1 < W0.heap.size := by omega
  replace hs0 := Lib.hid hs0
  clear TG HR3
  have hwn : IntKind.i64.wrap ((n : Int) - 1) = (n : Int) - 1 := by rw [IntKind.wrap_i64]; omega
  have hs4 : w3.heap.size < (w3.alloc (.cells #[.int .i64 root, .slice va n vc] 26)).heap.size := by simp
  go_wp2
  go_loopw [6] (fun i wr => ∃ (k : Nat) (rs : List PgV), k ≤ nl ∧ i = .int .i64 (k : Int) ∧ Hid (OwnP wr W0.heap.size (.slice va n vc) rs) ∧ Hid (rs.map PgV.pg = freeV (ps.map PgV.pg) (ids.take k)) ∧ Hid (Loc wr w.heap.size #[.int .i64 root, .slice a n cap]) ∧ Hid (Loc wr (w.heap.size + 1) #[.int .i64 0, .slice none 0 0]) ∧ Hid (Loc wr w3.heap.size #[.int .i64 root, .slice va n vc]) ∧ Hid (Below w.heap.size w wr)) (fun i _ => nl - (intOf i).toNat)
  case atStart => exact ⟨0, qs, Nat.zero_le _, rfl, HO, HQ, KA3, KR3, KG, HB⟩
  case round =>
    clear HO HQ KA3 KR3 KG HB
    obtain ⟨k, rs, hk, rfl, HO, HQ, KA3, KR3, KG, HB⟩ := hrel
    have a0 := KA3.out.2.1
    have g0 := KG.out.2.1
    have hrl : rs.length = n := ownP_len HO.out
    by_cases hlt : k < nl
    · obtain ⟨b, off, rfl, hc⟩ := HI.out.2 (by omega)
      have hck := hc k hlt
      have hbw : b < w.heap.size := World.block_lt_of_cell? w ⟨b, off + k, none⟩ hck
      rw [← HB.out.cell (p := ⟨b, off + k, none⟩) hbw] at hck
      obtain ⟨i, hik⟩ : ∃ i, ids.getD k 0 = i := ⟨_, rfl⟩
      rw [hik] at hck
      have hat : Hid (ids[k]? = some i) := by
        have : k < ids.length := by rw [HIL.out]; exact hlt
        show ids[k]? = some i
        rw [← hik]
        simp [List.getD, this]
      have z0 : (0 : Int) ≤ k := by omega
      have z1 : (k : Int) < nl := by omega
      clear hc hik
      by_cases hin : 0 ≤ i ∧ i ≤ (n : Int) - 1
      · obtain ⟨h0, h1⟩ := hin
        obtain ⟨m, rfl⟩ := Int.eq_ofNat_of_zero_le h0
        have hmn : m < n := by omega
        have z2 : (m : Int) < n := by omega
        obtain ⟨gb, rfl⟩ : ∃ g, va = some ⟨g, 0, none⟩ := own_head (ownP_row HO.out (ownP_len HO.out)) (by omega)
        have hgb := HO.out.lt
        have hgl := HOL.out gb rfl
        obtain ⟨y, hy, q0, q1, q2⟩ := ownP_at HO.out hmn
        have fz := HO.out.froz
        have P6 : Hid (OwnP (((wr.setCell ⟨gb, m * 3, none⟩ (.bool false)).setCell ⟨gb, m * 3 + 1, none⟩ (.bool false)).setCell ⟨gb, m * 3 + 1 + 1, none⟩ (.slice none 0 0)) W0.heap.size (.slice (some ⟨gb, 0, none⟩) n vc) (rs.set m zeroPgV)) :=
          Lib.hid (HO.out.set m zeroPgV (by rw [hrl]; exact hmn) rfl (ownS_none _ _ _) (apart_none _ 0 0).1 (fun _ _ _ _ => (apart_none _ 0 0).1))
        have M6 : Hid ((rs.set m zeroPgV).map PgV.pg = freeV (ps.map PgV.pg) (ids.take (k + 1))) := by
          show _ = _
          rw [freeV_more hat.out, ← HQ.out, putV_yes (by rw [List.length_map, hrl]; exact hmn), List.map_set]
          rfl
        have h3 : w.heap.size ≤ gb := by omega
        have B6 := Lib.hid (((HB.out.setCell (p := ⟨gb, m * 3, none⟩) h3 (.bool false)).setCell (p := ⟨gb, m * 3 + 1, none⟩) h3 (.bool false)).setCell (p := ⟨gb, m * 3 + 1 + 1, none⟩) h3 (.slice none 0 0))
        have G6 := Lib.hid (((KG.out.other (m * 3) (.bool false) (show gb ≠ w3.heap.size by omega)).other (m * 3 + 1) (.bool false) (show gb ≠ w3.heap.size by omega)).other (m * 3 + 1 + 1) (.slice none 0 0) (show gb ≠ w3.heap.size by omega))
        have R6 := Lib.hid (((KR3.out.other (m * 3) (.bool false) (show gb ≠ w.heap.size + 1 by omega)).other (m * 3 + 1) (.bool false) (show gb ≠ w.heap.size + 1 by omega)).other (m * 3 + 1 + 1) (.slice none 0 0) (show gb ≠ w.heap.size + 1 by omega))
        have A6 := Lib.hid (((KA3.out.other (m * 3) (.bool false) (show gb ≠ w.heap.size by omega)).other (m * 3 + 1) (.bool false) (show gb ≠ w.heap.size by omega)).other (m * 3 + 1 + 1) (.slice none 0 0) (show gb ≠ w.heap.size by omega))
        clear hy
        go_wp2
        go_region_with ((with_reducible refine (l1In_yes m 0 ((n : Int) - 1) _ h0 h1).mono ?_); rintro e w4 ⟨rfl, rfl⟩)
        all_goals
          go_wp2
          go_big_region
        all_goals
          go_wp2
          go_roundw
          case rel => exact ⟨k + 1, rs.set m zeroPgV, by omega, by go_num, Lib.hid P6.out.drew.drew, M6, Lib.hid A6.out.drew.drew, Lib.hid R6.out.drew.drew, Lib.hid G6.out.drew.drew, Lib.hid B6.out.drew.drew⟩
          case measure => simp [intOf]; omega
      · have M6 : Hid (rs.map PgV.pg = freeV (ps.map PgV.pg) (ids.take (k + 1))) := by
          show _ = _
          rw [freeV_more hat.out, ← HQ.out, putV_no (by rw [List.length_map, hrl]; exact hin)]
        go_wp2
        go_region_with ((with_reducible refine (l1In_no i 0 ((n : Int) - 1) _ hin).mono ?_); rintro e w4 ⟨rfl, rfl⟩)
        all_goals
          go_wp2
          go_roundw
          case rel => exact ⟨k + 1, rs, by omega, by go_num, Lib.hid HO.out.drew, M6, Lib.hid KA3.out.drew, Lib.hid KR3.out.drew, Lib.hid KG.out.drew, Lib.hid HB.out.drew⟩
          case measure => simp [intOf]; omega
    · have HF : Hid (rs.map PgV.pg = freeV (ps.map PgV.pg) ids) := by
        have := HQ.out
        rw [List.take_of_length_le (by rw [HIL.out]; omega)] at this
        exact Lib.hid this
      obtain ⟨hRl, r0, fr⟩ := KR3.out
      have hRG : w.heap.size + 1 ≠ w3.heap.size := by omega
      go_wp2
      refine bodyPost_ret (v := .agg #[.int .i64 root, .slice va n vc]) (by simp [results, Try.results22, go_sem, r0]) rfl ?_
      exact book_end HO.out HF.out HB.out (by omega) (by omega) (by omega)
end Go.Proofs.Ytfefggcfeppeiaa
