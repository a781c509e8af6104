/- Texts of this seat laid together: Page, BookS, BookC, Loc, Copy5, StepGo, BookD, BookE, BookN, ItemAt, BookA, BookM, IntS, BookX, Reach, Reach2, EntryAt. -/
import Derived.Test.YtfefggcfeppeiaaGreatQLooksa
import Derived.Deep.RegionLaw
import Derived.Calls
import Derived.Shelf.Abstract
import Derived.Deep.DeepCutAuto
import Derived.Deep.RegionHeld3
import Derived.BigRegion
import Derived.BigQuiet

/- Pages in memory: a row whose elements hold rows of their own. What is read, what is owned, what a change elsewhere leaves. -/
namespace Go.Proofs.YtfefggcfeppeiaaGreat
open Go.RowKit

/-- A page as it lies in memory: two marks and a slice of entries. -/
structure PgV where
  used : Bool
  leaf : Bool
  a : Option Addr
  n : Nat
  cap : Nat
  xs : List It
/-- What a page is. -/
structure Pg where
  used : Bool
  leaf : Bool
  xs : List It
def PgV.pg (p : PgV) : Pg := ⟨p.used, p.leaf, p.xs⟩
def PgV.sl (p : PgV) : Value := .slice p.a p.n p.cap
def pgLay : Lay PgV := ⟨3, fun p => [.bool p.used, .bool p.leaf, .slice p.a p.n p.cap], fun _ => rfl, by decide, fun x u hu => by simp at hu; rcases hu with rfl | rfl | rfl <;> rfl⟩
def zeroPgV : PgV := ⟨false, false, none, 0, 0, []⟩

/-- A slice of pages, read to the bottom. -/
def RdP (w : World) (a : Option Addr) (n cap : Nat) (ps : List PgV) : Prop := RdS pgLay w a n cap ps ∧ ∀ p ∈ ps, RdS itLay w p.a p.n p.cap p.xs
theorem RdP.below {w w' : World} {a : Option Addr} {n cap : Nat} {ps : List PgV} (h : RdP w a n cap ps) (hB : Below w.heap.size w w') : RdP w' a n cap ps := ⟨h.1.below hB, fun p hp => (h.2 p hp).below hB⟩
theorem rdP_nil (w : World) : RdP w none 0 0 [] := ⟨rdS_nil w, fun p hp => by cases hp⟩
/-- A page's three cells. -/
theorem rdP_at {w : World} {a : Option Addr} {n cap i : Nat} {ps : List PgV} (h : RdP w a n cap ps) (hi : i < n) :
    ∃ b off p, a = some ⟨b, off, none⟩ ∧ b < w.heap.size ∧ ps[i]? = some p ∧ RdS itLay w p.a p.n p.cap p.xs ∧ w.cell? ⟨b, off + i * 3, none⟩ = some (.bool p.used) ∧ w.cell? ⟨b, off + i * 3 + 1, none⟩ = some (.bool p.leaf) ∧
      w.cell? ⟨b, off + i * 3 + 1 + 1, none⟩ = some (.slice p.a p.n p.cap) := by
  obtain ⟨b, off, e, hlt, p, hp, hc⟩ := h.1.at_ hi
  exact ⟨b, off, p, e, hlt, hp, h.2 p (List.mem_of_getElem? hp), hc 0 _ rfl, hc 1 _ rfl, hc 2 _ rfl⟩

/-- What changes lies in the blocks lo, .., hi - 1. -/
structure ChgIn (lo hi : Nat) (w w' : World) : Prop where
  os : w'.os = w.os
  tape : w'.tape = w.tape
  output : w'.output = w.output
  size : w.heap.size ≤ w'.heap.size
  block : ∀ k, k < w.heap.size → ¬ (lo ≤ k ∧ k < hi) → w'.heap[k]? = w.heap[k]?
theorem ChgIn.refl (lo hi : Nat) (w : World) : ChgIn lo hi w w := ⟨rfl, rfl, rfl, Nat.le_refl _, fun _ _ _ => rfl⟩
theorem ChgIn.trans {lo hi : Nat} {a b c : World} (h : ChgIn lo hi a b) (k : ChgIn lo hi b c) : ChgIn lo hi a c :=
  ⟨k.os.trans h.os, k.tape.trans h.tape, k.output.trans h.output, Nat.le_trans h.size k.size, fun i hi hn => (k.block i (Nat.lt_of_lt_of_le hi h.size) hn).trans (h.block i hi hn)⟩
theorem ChgIn.of_grown {lo hi : Nat} {w w' : World} {row : Option Nat} (h : w.grownBy w' row) (hr : ∀ g, row = some g → lo ≤ g ∧ g < hi) : ChgIn lo hi w w' :=
  ⟨h.os, h.tape, h.output, h.size, fun k hk hn => h.block k hk (fun e => hn (hr k e.symm))⟩
theorem ChgIn.of_below {lo hi : Nat} {w w' : World} (h : Below w.heap.size w w') : ChgIn lo hi w w' := ⟨h.os, h.tape, h.output, h.size, fun k hk _ => h.block k hk⟩
theorem ChgIn.below {lo hi B : Nat} {a w w' : World} (h : Below B a w) (hs : B ≤ w.heap.size) (c : ChgIn lo hi w w') (hB : B ≤ lo) : Below B a w' :=
  ⟨c.os.trans h.os, c.tape.trans h.tape, c.output.trans h.output, Nat.le_trans h.size c.size, fun k hk => (c.block k (by omega) (by omega)).trans (h.block k hk)⟩
/-- What a fact about memory reads lies in the blocks lo, .., hi - 1. -/
def Frame (lo hi : Nat) (P : World → Prop) : Prop := ∀ w w' : World, (∀ k, lo ≤ k → k < hi → w'.heap[k]? = w.heap[k]?) → P w → P w'
theorem Frame.kept {lo hi : Nat} {P : World → Prop} (f : Frame lo hi P) {w w' : World} (h : P w) (hB : Below w.heap.size w w') (hs : hi ≤ w.heap.size) : P w' := f w w' (fun k _ hk => hB.block k (by omega)) h
theorem Frame.chg {lo hi lo' hi' : Nat} {P : World → Prop} (f : Frame lo hi P) {w w' : World} (h : P w) (c : ChgIn lo' hi' w w') (hs : hi ≤ w.heap.size) (hd : hi ≤ lo' ∨ hi' ≤ lo) : P w' :=
  f w w' (fun k h1 h2 => c.block k (by omega) (by omega)) h

section
variable {α : Type} {L : Lay α} {w w' : World} {e : TypeId} {base : Nat} {v : Value} {xs : List α}
theorem ownsRow_frame {size n : Nat} {xs : List Value} {hi : Nat} (hv : ∀ g, v.ownBlock = some g → base ≤ g ∧ g < hi) : Frame base hi (fun w => w.ownsRow base e size v n xs) := by
  rintro w w' ha ⟨h1, h2⟩
  refine ⟨h1, ?_⟩
  rcases h2 with h2 | ⟨g, cap, cur, hv', hg, hh, r⟩
  · exact .inl h2
  · refine .inr ⟨g, cap, cur, hv', hg, ?_, r⟩
    obtain ⟨h3, h4⟩ := hv g (by rw [hv']; rfl)
    rw [ha g h3 h4]
    exact hh
theorem OwnS.frame (h : OwnS L e w base v xs) : Frame base w.heap.size (fun w => OwnS L e w base v xs) := ownsRow_frame (fun g hg => World.ownsRow.lt h g hg)
theorem Own.frame {k : IntKind} {zs : List Int} (h : Own k e w base v zs) : Frame base w.heap.size (fun w => Own k e w base v zs) := ownsRow_frame (fun g hg => World.ownsRow.lt h g hg)
theorem RdS.frame {a : Option Addr} {n cap lo hi : Nat} (ha : ∀ b off, a = some ⟨b, off, none⟩ → 0 < n → lo ≤ b ∧ b < hi) : Frame lo hi (fun w => RdS L w a n cap xs) := by
  rintro w w' hh ⟨h1, h2⟩
  refine ⟨h1, fun hn => ?_⟩
  obtain ⟨b, off, e, hc⟩ := h2 hn
  refine ⟨b, off, e, fun i x hi j u hj => ?_⟩
  obtain ⟨h3, h4⟩ := ha b off e hn
  have := hc i x hi j u hj
  rw [← this]
  exact World.cell?_of_block (a := ⟨b, off + (i * L.sz + j), none⟩) (hh b h3 h4)
end
theorem cells_frame (q : Nat) (f : Nat → Option Value) : Frame q (q + 1) (fun w => ∀ o, w.cell? ⟨q, o, none⟩ = f o) := by
  intro w w' ha h o
  rw [← h o]
  exact World.cell?_of_block (a := ⟨q, o, none⟩) (ha q (Nat.le_refl _) (Nat.lt_succ_self _))

/-- A slice of pages that the call owns: the row, and each page's entries; all of them apart. -/
structure OwnP (w : World) (base : Nat) (v : Value) (ps : List PgV) : Prop where
  row : OwnS pgLay 70 w base v ps
  ent : ∀ p ∈ ps, OwnS itLay 77 w base p.sl p.xs
  out : ∀ p ∈ ps, Apart v p.sl
  pair : ∀ (i j : Nat) (p q : PgV), i ≠ j → ps[i]? = some p → ps[j]? = some q → Apart p.sl q.sl
theorem OwnP.frame {w : World} {base : Nat} {v : Value} {ps : List PgV} (h : OwnP w base v ps) : Frame base w.heap.size (fun w => OwnP w base v ps) := by
  intro w1 w2 ha k
  exact ⟨ownsRow_frame (fun g hg => World.ownsRow.lt h.row g hg) w1 w2 ha k.row, fun p hp => ownsRow_frame (fun g hg => World.ownsRow.lt (h.ent p hp) g hg) w1 w2 ha (k.ent p hp), k.out, k.pair⟩
theorem OwnP.below {w w' : World} {base : Nat} {v : Value} {ps : List PgV} (h : OwnP w base v ps) (hB : Below w.heap.size w w') : OwnP w' base v ps := h.frame.kept h hB (Nat.le_refl _)
theorem OwnP.mono {w : World} {base base' : Nat} {v : Value} {ps : List PgV} (h : OwnP w base' v ps) (hb : base ≤ base') : OwnP w base v ps := ⟨h.row.mono hb, fun p hp => (h.ent p hp).mono hb, h.out, h.pair⟩
theorem ownS_len {w : World} {base : Nat} {e : TypeId} {a : Option Addr} {n cap : Nat} {xs : List It} (h : OwnS itLay e w base (.slice a n cap) xs) : xs.length = n := by
  obtain ⟨a', c', hv, hr⟩ := h.rd
  simp only [Value.slice.injEq] at hv
  exact hv.2.1.symm
theorem ownP_len {w : World} {base : Nat} {a : Option Addr} {n cap : Nat} {ps : List PgV} (h : OwnP w base (.slice a n cap) ps) : ps.length = n := by
  obtain ⟨a', c', hv, hr⟩ := h.row.rd
  simp only [Value.slice.injEq] at hv
  exact hv.2.1.symm
theorem rdS_ownsP {w : World} {base : Nat} {e : TypeId} {a : Option Addr} {n cap : Nat} {xs : List It} (h : OwnS itLay e w base (.slice a n cap) xs) : RdS itLay w a n cap xs := by
  have := ownS_len h
  subst this
  exact rdS_owns h
theorem OwnP.rd {w : World} {base : Nat} {a : Option Addr} {n cap : Nat} {ps : List PgV} (h : OwnP w base (.slice a n cap) ps) : RdP w a n cap ps := by
  have hl := ownP_len h
  subst hl
  exact ⟨rdS_owns h.row, fun p hp => rdS_ownsP (h.ent p hp)⟩
theorem OwnP.shape {w : World} {base : Nat} {v : Value} {ps : List PgV} (h : OwnP w base v ps) : ∃ a c, v = .slice a ps.length c := by
  obtain ⟨a, c, e, _⟩ := h.row.rd
  exact ⟨a, c, e⟩
theorem ownP_none (w : World) (base : Nat) : OwnP w base (.slice none 0 0) [] := ⟨⟨rfl, .inl ⟨rfl, rfl⟩⟩, fun p hp => (by cases hp), fun p hp => (by cases hp), fun i j p q _ hp => (by simp at hp)⟩

/-- One page is written: its three cells, one by one. -/
theorem flat_setP (ps : List PgV) (k : Nat) (x : PgV) (hk : k < ps.length) :
    (((ps.flatMap pgLay.cells).set (k * 3) (.bool x.used)).set (k * 3 + 1) (.bool x.leaf)).set (k * 3 + 2) (.slice x.a x.n x.cap) = (ps.set k x).flatMap pgLay.cells := by
  induction ps generalizing k with
  | nil => simp at hk
  | cons y l ih =>
    cases k with
    | zero => simp [pgLay, List.flatMap_cons]
    | succ k =>
      have := ih k (by simpa using hk)
      simp only [List.flatMap_cons, List.set_cons_succ]
      rw [← this]
      have e : ∀ (j : Nat) (u : Value) (t : List Value), (pgLay.cells y ++ t).set ((k + 1) * 3 + j) u = pgLay.cells y ++ t.set (k * 3 + j) u := by
        intro j u t
        rw [List.set_append_right _ _ (by show 3 ≤ _; omega)]
        show pgLay.cells y ++ t.set ((k + 1) * 3 + j - 3) u = _
        rw [show (k + 1) * 3 + j - 3 = k * 3 + j by omega]
      have e0 := e 0
      simp only [Nat.add_zero] at e0
      rw [e0, e, e]
theorem apart_none (v : Value) (n c : Nat) : Apart v (.slice none n c) ∧ Apart (.slice none n c) v := ⟨fun g _ h => (by cases h), fun g h => (by cases h)⟩
/-- A page is written over another; its entries are new. -/
theorem OwnP.set {w w' : World} {base g n cap : Nat} {ps : List PgV} (h : OwnP w base (.slice (some ⟨g, 0, none⟩) n cap) ps) (k : Nat) (x : PgV) (hk : k < ps.length)
    (hw : w' = ((w.setCell ⟨g, k * 3, none⟩ (.bool x.used)).setCell ⟨g, k * 3 + 1, none⟩ (.bool x.leaf)).setCell ⟨g, k * 3 + 1 + 1, none⟩ (.slice x.a x.n x.cap))
    (hx : OwnS itLay 77 w base x.sl x.xs) (ho : Apart (.slice (some ⟨g, 0, none⟩) n cap) x.sl) (ha : ∀ i p, i ≠ k → ps[i]? = some p → Apart p.sl x.sl) : OwnP w' base (.slice (some ⟨g, 0, none⟩) n cap) (ps.set k x) := by
  have hl := ownP_len h
  subst hw
  have hG : w.grownBy _ (Value.slice (some ⟨g, 0, none⟩) n cap).ownBlock := grown_trans (grown_trans (grown_setCell (World.grownBy.refl w (some g)) g (k * 3) (.bool x.used) rfl) (grown_setCell (World.grownBy.refl _ (some g)) g (k * 3 + 1) (.bool x.leaf) rfl)) (grown_setCell (World.grownBy.refl _ (some g)) g (k * 3 + 1 + 1) (.slice x.a x.n x.cap) rfl)
  refine ⟨?_, fun p hp => ?_, fun p hp => ?_, fun i j p q hij hp hq => ?_⟩
  · have hr := h.row
    unfold OwnS at hr ⊢
    rw [List.length_set, ← flat_setP ps k x hk]
    rw [hl] at hr ⊢
    exact (((hr.stored (k * 3) _).1.stored (k * 3 + 1) _).1.stored (k * 3 + 1 + 1) _).1
  · rcases List.mem_or_eq_of_mem_set hp with h1 | rfl
    · exact (h.ent p h1).keptApart hG (h.out p h1).symm
    · exact hx.keptApart hG ho.symm
  · rcases List.mem_or_eq_of_mem_set hp with h1 | rfl
    · exact h.out p h1
    · exact ho
  · rw [List.getElem?_set] at hp hq
    split at hp
    · rename_i e
      subst e
      rw [if_neg hij] at hq
      obtain rfl := Option.some.inj hp
      exact (ha j q (Ne.symm hij) hq).symm
    · rename_i e
      split at hq
      · rename_i e2
        subst e2
        obtain rfl := Option.some.inj hq
        exact ha i p (Ne.symm e) hp
      · exact h.pair i j p q hij hp hq
/-- A page's cells in a row that is owned, and its marks. -/
theorem ownP_at {w : World} {base g n cap i : Nat} {ps : List PgV} (h : OwnP w base (.slice (some ⟨g, 0, none⟩) n cap) ps) (hi : i < n) :
    ∃ p, ps[i]? = some p ∧ w.cell? ⟨g, i * 3, none⟩ = some (.bool p.used) ∧ w.cell? ⟨g, i * 3 + 1, none⟩ = some (.bool p.leaf) ∧ w.cell? ⟨g, i * 3 + 1 + 1, none⟩ = some (.slice p.a p.n p.cap) := by
  obtain ⟨b, off, p, e, _, hp, _, d0, d1, d2⟩ := rdP_at h.rd hi
  obtain ⟨rfl, rfl⟩ : g = b ∧ 0 = off := by simpa using e
  simp only [Nat.zero_add] at d0 d1 d2
  exact ⟨p, hp, d0, d1, d2⟩
theorem OwnP.froz {w : World} {base g n cap : Nat} {ps : List PgV} (h : OwnP w base (.slice (some ⟨g, 0, none⟩) n cap) ps) (j : Nat) : w.frozen? ⟨g, j, none⟩ = false := by
  have := h.row
  unfold OwnS at this
  rw [ownP_len h] at this
  exact World.ownsRow.frozenAt this j
theorem OwnP.lt {w : World} {base g n cap : Nat} {ps : List PgV} (h : OwnP w base (.slice (some ⟨g, 0, none⟩) n cap) ps) : base ≤ g ∧ g < w.heap.size := World.ownsRow.lt h.row g rfl

/-- A book in new memory: its pages are owned. -/
def NewBook (root : Int) (out : List Pg) (w : World) (e : Ending) (w' : World) : Prop :=
  ∃ v ps, e = .returned (.agg #[.int .i64 root, v]) ∧ ps.map PgV.pg = out ∧ OwnP w' w.heap.size v ps ∧ Below w.heap.size w w'
end Go.Proofs.YtfefggcfeppeiaaGreat

/- The laws' own helpers on books: how large, a copy, equality. -/
namespace Go.Proofs.YtfefggcfeppeiaaGreat
open Go.RowKit

def totP (ps : List PgV) : Nat := (ps.map (fun p => p.n)).sum
theorem totP_more {ps : List PgV} {k : Nat} {p : PgV} (h : ps[k]? = some p) : totP (ps.take (k + 1)) = totP (ps.take k) + p.n := by
  unfold totP
  rw [List.take_add_one, h, List.map_append, List.sum_append]
  simp

/-- What is left, or less than nothing. -/
def LeftP (n t : Nat) (left : Int) (w : World) (e : Ending) (w' : World) : Prop := ∃ r : Int, e = .returned (.int .i64 r) ∧ (r < 0 ∨ (0 ≤ r ∧ r + n + t = left)) ∧ Below w.heap.size w w'

end Go.Proofs.YtfefggcfeppeiaaGreat

/- The laws' own helpers on books: a copy of all pages; equality. -/
namespace Go.Proofs.YtfefggcfeppeiaaGreat
open Go.RowKit

theorem Tryz.infoPage : (Tryz.prog.info? 70).map (fun i => (i.zero, i.size, i.bytes)) = some (some (.agg #[.bool false, .bool false, .slice none 0 0]), 3, 40) := by kernel_rfl
theorem madeP (n : Nat) : (madeCells #[Value.bool false, .bool false, .slice none 0 0] (n * 3)).toList = (List.replicate n zeroPgV).flatMap pgLay.cells := by
  apply List.ext_getElem?
  intro j
  have hr := Nat.div_add_mod j 3
  have hlt := Nat.mod_lt j (show 0 < 3 by omega)
  have hf := flat_at pgLay (List.replicate n zeroPgV) (j / 3) (j % 3) hlt
  rw [show j / 3 * pgLay.sz + j % 3 = j by show j / 3 * 3 + j % 3 = j; omega] at hf
  rw [hf]
  by_cases hj : j < n * 3
  · have h4 : j / 3 < n := by omega
    rw [List.getElem?_replicate, if_pos h4]
    simp only [Option.bind_some]
    rcases (by omega : j % 3 = 0 ∨ j % 3 = 1 ∨ j % 3 = 2) with h | h | h <;> simp [madeCells, hj, h, pgLay, zeroPgV]
  · have h4 : ¬ j / 3 < n := by omega
    rw [List.getElem?_replicate, if_neg h4]
    simp [madeCells, hj]
theorem pg_take {ps qs : List PgV} {k : Nat} {p q : PgV} (hp : ps[k]? = some p) (h : (qs.take k).map PgV.pg = (ps.take k).map PgV.pg) (hk : k < qs.length) (e : q.pg = p.pg) : ((qs.set k q).take (k + 1)).map PgV.pg = (ps.take (k + 1)).map PgV.pg := by
  have hs : (qs.set k q)[k]? = some q := by simp [hk]
  rw [List.take_add_one, hs, List.take_add_one, hp, List.map_append, List.map_append, List.take_set_of_le (Nat.le_refl _), h]
  simp [e]

theorem pg_at {ps qs : List PgV} (h : ps.map PgV.pg = qs.map PgV.pg) {k : Nat} {p q : PgV} (hp : ps[k]? = some p) (hq : qs[k]? = some q) : p.used = q.used ∧ p.leaf = q.leaf ∧ p.xs = q.xs := by
  have h1 : (ps.map PgV.pg)[k]? = some p.pg := by rw [List.getElem?_map, hp]; rfl
  have h2 : (qs.map PgV.pg)[k]? = some q.pg := by rw [List.getElem?_map, hq]; rfl
  rw [h, h2] at h1
  have := Option.some.inj h1
  unfold PgV.pg at this
  simp only [Pg.mk.injEq] at this
  exact ⟨this.1.symm, this.2.1.symm, this.2.2.symm⟩

end Go.Proofs.YtfefggcfeppeiaaGreat

/- Locals' blocks. -/
namespace Go.Proofs.YtfefggcfeppeiaaGreat
open Go.RowKit

/-- A local's block: there, with these cells, not frozen. -/
def Loc (W : World) (q : Nat) (cs : Array Value) : Prop := q < W.heap.size ∧ (∀ o, W.cell? ⟨q, o, none⟩ = cs[o]?) ∧ (∀ o, W.frozen? ⟨q, o, none⟩ = false)
theorem Loc.new (W : World) (cs : Array Value) (t : TypeId) : Loc (W.alloc (.cells cs t)) W.heap.size cs := ⟨by simp, (blk_new W cs t).1, (blk_new W cs t).2⟩
theorem Loc.of {W W' : World} {q : Nat} {cs : Array Value} (h : Loc W q cs) (hs : W.heap.size ≤ W'.heap.size) (hb : W'.heap[q]? = W.heap[q]?) : Loc W' q cs :=
  ⟨Nat.lt_of_lt_of_le h.1 hs, fun o => (cell_of_heap hb o).trans (h.2.1 o), fun o => (frozen_of_heap hb o).trans (h.2.2 o)⟩
theorem Loc.below {W W' : World} {q : Nat} {cs : Array Value} (h : Loc W q cs) (hb : Below W.heap.size W W') : Loc W' q cs := h.of hb.size (hb.block q h.1)
theorem Loc.alloc {W : World} {q : Nat} {cs : Array Value} (h : Loc W q cs) (O : Obj) : Loc (W.alloc O) q cs := h.below (new_below W O)
theorem Loc.grown {W W' : World} {q : Nat} {cs : Array Value} {row : Option Nat} (h : Loc W q cs) (hg : W.grownBy W' row) (hne : ∀ k, row = some k → k ≠ q) : Loc W' q cs :=
  h.of hg.size (hg.block q h.1 (fun e => hne q e.symm rfl))
theorem Loc.far {W W' : World} {q g : Nat} {cs : Array Value} (h : Loc W q cs) (hg : W.grownBy W' (some g)) (hlt : g < q) : Loc W' q cs := h.grown hg (fun k hk => by cases hk; omega)
/-- A cell of a local is written. -/
theorem Loc.set {W : World} {q : Nat} {cs : Array Value} (h : Loc W q cs) (j : Nat) (u : Value) (hj : j < cs.size) : Loc (W.setCell ⟨q, j, none⟩ u) q (cs.setIfInBounds j u) := by
  refine ⟨by simpa using h.1, fun o => ?_, fun o => (World.frozen?_setCell _ _ _ _).trans (h.2.2 o)⟩
  by_cases e : o = j
  · subst e
    rw [World.cell?_setCell_same' _ _ _ (by rw [h.2.1 o]; simp [hj])]
    simp [hj]
  · rw [World.cell?_setCell_other _ _ _ _ (by intro h; simp only [Addr.mk.injEq] at h; exact e h.2.1.symm), h.2.1 o]
    simp [Ne.symm e]
theorem Loc.other {W : World} {q p : Nat} {cs : Array Value} (h : Loc W q cs) (j : Nat) (u : Value) (hp : p ≠ q) : Loc (W.setCell ⟨p, j, none⟩ u) q cs := h.of (by simp) (Below.heap_setCell _ _ _ _ (fun e => hp e.symm))
theorem Loc.drew {W : World} {q : Nat} {cs : Array Value} (h : Loc W q cs) : Loc W.drew q cs := h.of (Nat.le_refl _) rfl
theorem ownS_set2 {w : World} {e : TypeId} {base g : Nat} {v : Value} {xs : List It} (h : OwnS itLay e w base v xs) (hg : g < base) (j : Nat) (u : Value) : OwnS itLay e (w.setCell ⟨g, j, none⟩ u) base v xs :=
  ownS_set h (fun hj => by have := (World.ownsRow.lt h g hj).1; omega) j u
end Go.Proofs.YtfefggcfeppeiaaGreat

/- The model's copy of a node. -/
namespace Go.Proofs.YtfefggcfeppeiaaGreat
open Go.RowKit

set_option maxHeartbeats 3200000 in
set_option maxRecDepth 100000 in
theorem l5Copy_any (b : Bool) (a : Option Addr) (n cap : Nat) (xs : List It) (w : World) (h : RdS itLay w a n cap xs) (hn : n ≤ 1099511627776) :
    Calls Tryz.prog 95 #[.agg #[.bool b, .slice a n cap]] w (NewNode b xs w) := by
  obtain ⟨i0, hi, hz0, hz1, hz2⟩ := info_parts Tryz.infoEntry
  replace hi := Lib.hid hi
  replace hz0 := Lib.hid hz0
  replace hz1 := Lib.hid hz1
  replace hz2 := Lib.hid hz2
  obtain ⟨W0, hW0⟩ : ∃ W0, W0 = (w.alloc (.cells #[.bool b, .slice a n cap] 59)).alloc (.cells #[.bool false, .slice none 0 0] 59) := ⟨_, rfl⟩
  have hs0 : W0.heap.size = w.heap.size + 1 + 1 := by subst hW0; simp
  have B0 : Below w.heap.size w W0 := by subst hW0; exact ((Below.refl _ _).alloc (Nat.le_refl _) _).alloc (by simp) _
  have K : Hid (Loc W0 w.heap.size #[.bool b, .slice a n cap]) := by subst hW0; exact (Loc.new w _ _).alloc _
  have J : Hid (Loc W0 (w.heap.size + 1) #[.bool false, .slice none 0 0]) := by
    subst hW0
    have := Loc.new (w.alloc (.cells #[.bool b, .slice a n cap] 59)) #[.bool false, .slice none 0 0] 59
    rw [show (w.alloc (.cells #[.bool b, .slice a n cap] 59)).heap.size = w.heap.size + 1 by simp] at this
    exact this
  have HR := Lib.hid ((h.below B0).alloc (.cells #[] 77))
  have HL := Lib.hid h.1.1
  have B1 := Lib.hid B0
  clear h B0
  go_enter Tryz.func95, Tryz.ntmps95
  go_wp2_with fail
  rw [← hW0]
  clear hW0
  obtain ⟨-, k0, f0⟩ := K.out
  have l0 := (K.out.alloc (.cells #[] 77)).2.1
  have hO := Lib.hid (own_nil W0 77 5 (w.heap.size + 1 + 1) W0.heap.size rfl (by omega))
  go_region_law ((refine step_append_src rfl (.tmp 5) (.tmp 7) 57 rfl (w.heap.size + 1 + 1) 77 i0 _ 5 40 Tryz.underlying57 hi.out hz0.out hz1.out hz2.out rfl (by decide) (.slice (some ⟨W0.heap.size, 0, none⟩) 0 0) 0 [] (by simp [Act.eval]) (World.ownsRow.drew hO.out) a n cap (xs.flatMap itLay.cells) (by simp [Act.eval]) HR.out.len HR.out.nil (fun p hp j u hj => HR.out.news p hp j u hj) (flat_one itLay _) (by unfold maxLen; omega) (by omega) (by simp; omega) ?_); intro v2 w2 o2 g2; obtain ⟨ra, rc, rfl⟩ := owns_shape o2; have K2 := Lib.hid ((K.out.alloc (.cells #[] 77)).drew.grown g2 (fun k hk => by simp [Value.ownBlock] at hk; omega)); have J2 := Lib.hid ((J.out.alloc (.cells #[] 77)).drew.grown g2 (fun k hk => by simp [Value.ownBlock] at hk; omega)); obtain ⟨-, k2, e2⟩ := K2.out; obtain ⟨-, j2, m2⟩ := J2.out)
  all_goals
    have O3 : Hid (OwnS itLay 77 w2 (w.heap.size + 1 + 1) (.slice ra n rc) xs) := by
      show OwnS _ _ _ _ _ _
      unfold OwnS
      rw [HL.out]
      simp only [Nat.zero_add, List.nil_append] at o2
      exact o2
    have B3 := Lib.hid (((B1.out.alloc (by omega) (.cells #[] 77)).drew).grown g2 (by simp; omega) (fun j hj => by simp [Value.ownBlock] at hj; omega))
    clear o2
    go_wp2
    refine bodyPost_ret (v := .agg #[.bool b, .slice ra n rc]) (by simp [results, Tryz.results95, go_sem, j2]) rfl ⟨_, rfl, ?_, ?_⟩
    · exact OwnS.mono (L := itLay) (ownS_set2 (ownS_set2 O3.out (by omega) _ _) (by omega) _ _) (by omega)
    · exact (B3.out.setCell (p := ⟨w.heap.size + 1, 0, none⟩) (show w.heap.size ≤ w.heap.size + 1 by omega) _).setCell (p := ⟨w.heap.size + 1, 1, none⟩) (show w.heap.size ≤ w.heap.size + 1 by omega) _
end Go.Proofs.YtfefggcfeppeiaaGreat

/- A call of a Go function at a step of a region that draws, met by its contract. -/
namespace Go.Proofs.YtfefggcfeppeiaaGreat
open Go.RowKit

theorem step_go {P : Program} {w : World} {ops : Array Oper} {o : Oper} {a : Act} {K : Act → World → Prop} {Q : Exit → Act → World → Prop} {E : Prop} (hgd : o.guard = none) (f : FuncId) (xs : Array Operand) (ts : Array TypeId)
    (ho : o.op = .call { callee := .value (.func f), args := xs, argTypes := ts }) (vs : Array Value) (hv : xs.map a.eval = vs) (eg : ∀ args w, (callFunc f args).run P w = .ok (.enter f args) w)
    {R : Value → World → Prop} (hc : Calls P f vs w fun e w' => ∃ v, e = .returned v ∧ R v w') (h : ∀ v w', R v w' → K (a.put o.dst v) w') :
    if Region.wanted o (yielded ops a.tmps) = true then Oper.wp P o a w K Q else E := by
  have hw : Region.wanted o (yielded ops a.tmps) = true := by simp [Region.wanted, hgd]
  rw [if_pos hw]
  subst hv
  have hrun : (execOp a.eval o).run P w = .ok (.enter f (xs.map a.eval)) w := by
    have e := eg (xs.map a.eval) w
    simp [execOp, ho, resolve, invoke, Act.eval, Deferred.ofValue]
    simpa using e
  unfold Oper.wp
  rw [hrun]
  show Calls P f _ w _
  refine hc.mono ?_
  rintro e w' ⟨v, rfl, hr⟩
  exact h v w' hr
end Go.Proofs.YtfefggcfeppeiaaGreat

/- The model's copy of a book, page by page. -/
namespace Go.Proofs.YtfefggcfeppeiaaGreat
open Go.RowKit
attribute [local go_sem ↓] Go.wp_at_zero Go.wp_at_succ

/-- Rows of elements of different types lie in different blocks. -/
theorem apart_types {w : World} {base base' : Nat} {e e' : TypeId} {s s' : Nat} {v v' : Value} {n n' : Nat} {xs xs' : List Value} (h : w.ownsRow base e s v n xs) (h' : w.ownsRow base' e' s' v' n' xs') (hne : e ≠ e') : Apart v v' := by
  intro g hv hv'
  rcases h.2 with ⟨rfl, _⟩ | ⟨g1, c1, cu1, rfl, _, hh, _⟩
  · cases hv
  · rcases h'.2 with ⟨rfl, _⟩ | ⟨g2, c2, cu2, rfl, _, hh', _⟩
    · cases hv'
    · obtain rfl : g1 = g := by simpa [Value.ownBlock] using hv
      obtain rfl : g2 = g1 := by simpa [Value.ownBlock] using hv'
      rw [hh] at hh'
      simp only [Option.some.injEq, Obj.cells.injEq] at hh'
      exact hne hh'.2.1
/-- A local's block bears its own type. -/
def TagT (T : TypeId) (V : World) (q : Nat) : Prop := ∃ cs fr, V.heap[q]? = some (.cells cs T fr)
theorem TagT.new (T : TypeId) (V : World) (cs : Array Value) : TagT T (V.alloc (.cells cs T)) V.heap.size := ⟨cs, _, heap_alloc_new V _⟩
theorem TagT.of {T : TypeId} {V V' : World} {q : Nat} (h : TagT T V q) (hb : V'.heap[q]? = V.heap[q]?) : TagT T V' q := by obtain ⟨cs, fr, e⟩ := h; exact ⟨cs, fr, hb.trans e⟩
theorem TagT.ne {T : TypeId} {V : World} {q base : Nat} {e : TypeId} {s : Nat} {v : Value} {n : Nat} {xs : List Value} (h : TagT T V q) (ho : V.ownsRow base e s v n xs) (hne : e ≠ T) : ∀ k, v.ownBlock = some k → k ≠ q := by
  rintro k hk rfl
  obtain ⟨cs, fr, hh⟩ := h
  rcases ho.2 with ⟨rfl, _⟩ | ⟨g1, c1, cu1, rfl, _, hh', _⟩
  · cases hk
  · obtain rfl : g1 = k := by simpa [Value.ownBlock] using hk
    rw [hh] at hh'
    simp only [Option.some.injEq, Obj.cells.injEq] at hh'
    exact hne hh'.2.1.symm

theorem TagT.set {T : TypeId} {V : World} {q : Nat} (h : TagT T V q) (p j : Nat) (u : Value) : TagT T (V.setCell ⟨p, j, none⟩ u) q := by
  obtain ⟨cs, fr, e⟩ := h
  by_cases hq : q = p
  · subst hq
    refine ⟨cs.setIfInBounds j u, fr, ?_⟩
    simp only [World.setCell, Array.getElem?_modify, e]
    simp
  · exact ⟨cs, fr, (Below.heap_setCell V ⟨p, j, none⟩ u q hq).trans e⟩
theorem wp_last {P : Program} {s : Code} {Q : Exit → Act → World → Prop} {a : Act} {w : World} (h : ∀ K : Act → World → Prop, (∀ a w, Q .normal a w → K a w) → s.wp P (Exit.then K Q) a w) : s.wp P Q a w := by
  refine wp_mono (h (Q .normal) (fun _ _ h => h)) ?_
  intro e a' w' hq
  cases e <;> exact hq

/-- One page more: the row may have moved, the entries lie where they lay. -/
theorem OwnP.snoc {w w1 w3 : World} {base : Nat} {v v' : Value} {ps : List PgV} {p : PgV} (h : OwnP w base v ps) (hB : Below w.heap.size w w1) (hp : OwnS itLay 77 w1 base p.sl p.xs) (hpn : ∀ g, p.sl.ownBlock = some g → w.heap.size ≤ g)
    (ho : w3.ownsRow base 70 3 v' (ps.length + 1) (ps.flatMap pgLay.cells ++ pgLay.cells p)) (hg : w1.grownBy w3 v.ownBlock) : OwnP w3 base v' (ps ++ [p]) := by
  have h1 := h.below hB
  have hrow : OwnS pgLay 70 w3 base v' (ps ++ [p]) := by
    unfold OwnS
    rw [List.length_append, List.flatMap_append, List.flatMap_cons, List.flatMap_nil, List.append_nil]
    exact ho
  have hvp : Apart v p.sl := apart_types h1.row hp (by decide)
  have hent : ∀ q ∈ ps ++ [p], OwnS itLay 77 w3 base q.sl q.xs := by
    intro q hq
    rcases List.mem_append.1 hq with h2 | h2
    · exact (h1.ent q h2).keptApart hg (h1.out q h2).symm
    · rw [List.mem_singleton.1 h2]
      exact hp.keptApart hg hvp.symm
  refine ⟨hrow, hent, fun q hq => apart_types hrow (hent q hq) (by decide), fun i j q r hij hq hr => ?_⟩
  have hlt : ∀ i q, (ps ++ [p])[i]? = some q → (i < ps.length ∧ ps[i]? = some q) ∨ (i = ps.length ∧ q = p) := by
    intro i q hq
    by_cases hi : i < ps.length
    · rw [List.getElem?_append_left hi] at hq
      exact .inl ⟨hi, hq⟩
    · have hl := (List.getElem?_eq_some_iff.1 hq).1
      simp at hl
      obtain rfl : i = ps.length := by omega
      rw [List.getElem?_concat_length] at hq
      exact .inr ⟨rfl, (Option.some.inj hq).symm⟩
  have hnew : ∀ q ∈ ps, Apart q.sl p.sl := fun q hq g h2 h3 => by
    have h4 := (World.ownsRow.lt (h.ent q hq) g h2).2
    have h5 := hpn g h3
    omega
  rcases hlt i q hq with ⟨h2, h3⟩ | ⟨h2, rfl⟩
  · rcases hlt j r hr with ⟨h4, h5⟩ | ⟨h4, rfl⟩
    · exact h.pair i j q r hij h3 h5
    · exact hnew q (List.mem_of_getElem? h3)
  · rcases hlt j r hr with ⟨h4, h5⟩ | ⟨h4, rfl⟩
    · exact (hnew r (List.mem_of_getElem? h5)).symm
    · exact absurd (h2.trans h4.symm) hij
end Go.Proofs.YtfefggcfeppeiaaGreat

/- The model's copy of a book. -/
namespace Go.Proofs.YtfefggcfeppeiaaGreat
open Go.RowKit

theorem own_ne {v : Value} {g : Nat} (h : ∀ k, v.ownBlock = some k → k ≠ g) : v.ownBlock = none ∨ v.ownBlock ≠ some g := by
  cases hv : v.ownBlock with
  | none => exact .inl rfl
  | some k => exact .inr (fun e => h k hv (Option.some.inj e))
theorem ownP_row {w : World} {base n : Nat} {v : Value} {ps : List PgV} (h : OwnP w base v ps) (hl : ps.length = n) : w.ownsRow base 70 3 v n (ps.flatMap pgLay.cells) := by
  subst hl
  exact h.row

theorem len_more {qs : List PgV} {k : Nat} {p : PgV} (h : Hid (qs.length = k)) : Hid ((qs ++ [p]).length = k + 1) := by
  show (qs ++ [p]).length = k + 1
  rw [List.length_append, h.out]
  rfl

theorem copy_round {w wr w4 w5 : World} {G k : Nat} {root : Int} {a a4 a5 : Option Addr} {n cap c4 c5 vc : Nat} {va : Option Addr} {qs ps : List PgV} {p : PgV} (hGl : G < wr.heap.size) (hG2 : w.heap.size + 2 < G)
    (KA : Loc wr w.heap.size #[.int .i64 root, .slice a n cap]) (KR : Loc wr (w.heap.size + 1) #[.int .i64 0, .slice none 0 0]) (TG : TagT 26 wr G) (HO : OwnP wr (w.heap.size + 2) (.slice va k vc) qs) (HQ : qs.length = k) (HP : ps[k]? = some p)
    (HT : qs.map PgV.pg = (ps.take k).map PgV.pg) (HB : Below w.heap.size w wr) (B4 : Below wr.drew.heap.size wr.drew w4) (O4 : OwnS itLay 77 w4 wr.drew.heap.size (.slice a4 p.xs.length c4) p.xs)
    (O5 : w5.ownsRow (w.heap.size + 2) 70 3 (.slice a5 (k + 1) c5) (k + 1) (qs.flatMap pgLay.cells ++ pgLay.cells ⟨p.used, p.leaf, a4, p.xs.length, c4, p.xs⟩)) (G5 : (w4.alloc (.cells #[.bool p.used, .bool p.leaf, .slice a4 p.xs.length c4] 70)).grownBy w5 (Value.slice va k vc).ownBlock) (L5 : Loc w5 G #[.int .i64 root, .slice va k vc]) :
    Hid (Loc (w5.setCell ⟨G, 1, none⟩ (.slice a5 (k + 1) c5)) w.heap.size #[.int .i64 root, .slice a n cap]) ∧ Hid (Loc (w5.setCell ⟨G, 1, none⟩ (.slice a5 (k + 1) c5)) (w.heap.size + 1) #[.int .i64 0, .slice none 0 0]) ∧ Hid (Loc (w5.setCell ⟨G, 1, none⟩ (.slice a5 (k + 1) c5)) G #[.int .i64 root, .slice a5 (k + 1) c5]) ∧
      Hid (TagT 26 (w5.setCell ⟨G, 1, none⟩ (.slice a5 (k + 1) c5)) G) ∧ Hid (OwnP (w5.setCell ⟨G, 1, none⟩ (.slice a5 (k + 1) c5)) (w.heap.size + 2) (.slice a5 (k + 1) c5) (qs ++ [(⟨p.used, p.leaf, a4, p.xs.length, c4, p.xs⟩ : PgV)])) ∧
      Hid ((qs ++ [(⟨p.used, p.leaf, a4, p.xs.length, c4, p.xs⟩ : PgV)]).map PgV.pg = (ps.take (k + 1)).map PgV.pg) ∧ Hid (Below w.heap.size w (w5.setCell ⟨G, 1, none⟩ (.slice a5 (k + 1) c5))) := by
  have E4 : OwnS itLay 77 w4 (w.heap.size + 2) (.slice a4 p.xs.length c4) p.xs := O4.mono (show w.heap.size + 2 ≤ wr.heap.size by omega)
  have P5 : OwnP w5 (w.heap.size + 2) (.slice a5 (k + 1) c5) (qs ++ [(⟨p.used, p.leaf, a4, p.xs.length, c4, p.xs⟩ : PgV)]) :=
    OwnP.snoc (w := wr.drew) (w1 := w4.alloc (.cells #[.bool p.used, .bool p.leaf, .slice a4 p.xs.length c4] 70)) (HO.below (drew_below _)) (B4.alloc B4.size _) (E4.below (new_below _ _)) (fun g hg => (World.ownsRow.lt O4 g hg).1) (by rw [HQ]; exact O5) G5
  have hrow : ∀ j, (Value.slice va k vc).ownBlock = some j → w.heap.size + 2 ≤ j ∧ j ≠ G := fun j hj => ⟨(World.ownsRow.lt HO.row j hj).1, TG.ne HO.row (by decide) j hj⟩
  have s4 := B4.size
  have e0 : wr.drew.heap.size = wr.heap.size := rfl
  have s5 := G5.size
  simp at s5
  have hbl : ∀ q, q < wr.heap.size → (q < w.heap.size + 2 ∨ q = G) → w5.heap[q]? = wr.heap[q]? := fun q hq hq' =>
    (G5.block q (by simp; omega) (fun e => by have := hrow q e.symm; omega)).trans ((Below.heap_alloc _ _ q (by omega)).trans (B4.block q hq))
  have T5 : TagT 26 w5 G := TG.of (hbl G hGl (.inr rfl))
  have hne1 := T5.ne P5.row (by decide)
  have hne2 : ∀ q ∈ qs ++ [(⟨p.used, p.leaf, a4, p.xs.length, c4, p.xs⟩ : PgV)], ∀ g, q.sl.ownBlock = some g → g ≠ G := fun q hq => T5.ne (P5.ent q hq) (by decide)
  have hG := grown_setCell (World.grownBy.refl w5 (some G)) G 1 (.slice a5 (k + 1) c5) rfl
  refine ⟨Lib.hid ((KA.of (by omega) (hbl _ (by omega) (.inl (by omega)))).other 1 _ (by omega)), Lib.hid ((KR.of (by omega) (hbl _ (by omega) (.inl (by omega)))).other 1 _ (by omega)), Lib.hid (L5.set 1 (.slice a5 (k + 1) c5) (by show 1 < 2; decide)), Lib.hid (TagT.set T5 G 1 (.slice a5 (k + 1) c5)),
    Lib.hid ⟨OwnS.kept P5.row hG (own_ne hne1), fun q hq => OwnS.kept (P5.ent q hq) hG (own_ne (hne2 q hq)), P5.out, P5.pair⟩, Lib.hid ?_, Lib.hid ?_⟩
  · rw [List.map_append, HT, List.take_add_one, HP, List.map_append]
    rfl
  · exact ((((HB.drew).trans (B4.mono (show w.heap.size ≤ wr.heap.size by omega))).alloc (by omega) (.cells #[.bool p.used, .bool p.leaf, .slice a4 p.xs.length c4] 70)).grown G5 (by simp; omega) (fun j hj => by have := (hrow j hj).1; omega)).setCell (p := ⟨G, 1, none⟩) (show w.heap.size ≤ G by omega) _

set_option maxRecDepth 100000 in
set_option maxHeartbeats 3200000 in
theorem l7Copy_any (root : Int) (a : Option Addr) (n cap : Nat) (ps : List PgV) (w : World) (h : RdP w a n cap ps) (hn : n ≤ 1099511627776) (hps : ∀ p ∈ ps, p.n ≤ 1099511627776) :
    Calls Tryz.prog 87 #[.agg #[.int .i64 root, .slice a n cap]] w (NewBook root (ps.map PgV.pg) w) := by
  obtain ⟨i0, hi, hz0, hz1, hz2⟩ := info_parts Tryz.infoPage
  replace hi := Lib.hid hi
  replace hz0 := Lib.hid hz0
  replace hz1 := Lib.hid hz1
  replace hz2 := Lib.hid hz2
  have hnc := h.1.1.2.1
  have hm := h.1.1.2.2.1
  unfold maxLen at hm
  have HR := Lib.hid h
  have HL := Lib.hid h.1.1.1
  have HN := Lib.hid hps
  obtain ⟨W0, hW0⟩ : ∃ W0, W0 = ((w.alloc (.cells #[.int .i64 root, .slice a n cap] 26)).alloc (.cells #[.int .i64 0, .slice none 0 0] 26)).alloc (.cells #[] 70) := ⟨_, rfl⟩
  have hs0 : W0.heap.size = w.heap.size + 1 + 1 + 1 := by subst hW0; simp
  have B0 : Below w.heap.size w W0 := by subst hW0; exact (((Below.refl _ _).alloc (Nat.le_refl _) _).alloc (by simp) _).alloc (by simp; omega) _
  have KA : Loc W0 w.heap.size #[.int .i64 root, .slice a n cap] := by subst hW0; exact ((Loc.new w _ _).alloc _).alloc _
  have KR : Loc W0 (w.heap.size + 1) #[.int .i64 0, .slice none 0 0] := by
    subst hW0
    have := (Loc.new (w.alloc (.cells #[.int .i64 root, .slice a n cap] 26)) #[.int .i64 0, .slice none 0 0] 26).alloc (.cells #[] 70)
    rw [show (w.alloc (.cells #[.int .i64 root, .slice a n cap] 26)).heap.size = w.heap.size + 1 by simp] at this
    exact this
  have OP : OwnP W0 (w.heap.size + 2) (.slice (some ⟨w.heap.size + 2, 0, none⟩) 0 0) [] := by
    subst hW0
    exact ⟨own_nil ((w.alloc (.cells #[.int .i64 root, .slice a n cap] 26)).alloc (.cells #[.int .i64 0, .slice none 0 0] 26)) 70 3 (w.heap.size + 2) (w.heap.size + 2) (by simp) (Nat.le_refl _), fun p hp => (by cases hp), fun p hp => (by cases hp), fun i j p q _ hp => (by simp at hp)⟩
  obtain ⟨G, hG⟩ : ∃ G, G = w.heap.size + 1 + 1 + 1 := ⟨_, rfl⟩
  have KG := Loc.new W0 #[.int .i64 root, .slice (some ⟨w.heap.size + 2, 0, none⟩) 0 0] 26
  have TG := TagT.new 26 W0 #[.int .i64 root, .slice (some ⟨w.heap.size + 2, 0, none⟩) 0 0]
  rw [hs0, ← hG] at KG TG
  replace KA := Lib.hid (KA.alloc (.cells #[.int .i64 root, .slice (some ⟨w.heap.size + 2, 0, none⟩) 0 0] 26))
  replace KR := Lib.hid (KR.alloc (.cells #[.int .i64 root, .slice (some ⟨w.heap.size + 2, 0, none⟩) 0 0] 26))
  replace KG := Lib.hid KG
  replace TG := Lib.hid TG
  have HO := Lib.hid (OP.below (new_below W0 (.cells #[.int .i64 root, .slice (some ⟨w.heap.size + 2, 0, none⟩) 0 0] 26)))
  replace B0 := Lib.hid (B0.alloc (by omega) (.cells #[.int .i64 root, .slice (some ⟨w.heap.size + 2, 0, none⟩) 0 0] 26))
  clear h hps OP
  go_enter Tryz.func87, Tryz.ntmps87
  go_wp2
  rw [← hW0, ← hG]
  clear hW0
  have hG2 : w.heap.size + 2 < G := by omega
  replace hG := Lib.hid hG
  go_loopw [4] (fun i wr => ∃ (k : Nat) (va : Option Addr) (vc : Nat) (qs : List PgV), k ≤ n ∧ i = .int .i64 (k : Int) ∧ Hid (qs.length = k) ∧ Hid (Loc wr w.heap.size #[.int .i64 root, .slice a n cap]) ∧ Hid (Loc wr (w.heap.size + 1) #[.int .i64 0, .slice none 0 0]) ∧ Hid (Loc wr G #[.int .i64 root, .slice va k vc]) ∧ Hid (TagT 26 wr G) ∧ Hid (OwnP wr (w.heap.size + 2) (.slice va k vc) qs) ∧ Hid (qs.map PgV.pg = (ps.take k).map PgV.pg) ∧ Hid (Below w.heap.size w wr)) (fun i _ => n - (intOf i).toNat)
  case atStart => exact ⟨0, _, _, [], Nat.zero_le _, rfl, Lib.hid rfl, KA, KR, KG, TG, HO, Lib.hid rfl, B0⟩
  case round =>
    clear KA KR KG TG HO B0
    obtain ⟨k, va, vc, qs, hk, rfl, HQ, KA, KR, KG, TG, HO, HT, HB⟩ := hrel
    obtain ⟨hA, k0, f0⟩ := KA.out
    obtain ⟨hGl, j0, g0⟩ := KG.out
    by_cases hlt : k < n
    · obtain ⟨b, off, p, rfl, hbl, hp, hrd, d0, d1, d2⟩ := rdP_at (HR.out.below HB.out) hlt
      have hbw : b < w.heap.size := HR.out.1.lt (by omega) rfl
      have HP := Lib.hid hp
      have hpn := HN.out p (List.mem_of_getElem? hp)
      have HRD := Lib.hid hrd
      have z0 : (0 : Int) ≤ k := by omega
      have z1 : (k : Int) < n := by omega
      have c1 := j0 1
      simp at c1
      have a1 := k0 1
      simp at a1
      have hq2 : w.heap.size < w.heap.size + 1 := Nat.lt_succ_self _
      have hbw2 : b < w.heap.size + 1 := by omega
      have KB := Lib.hid (show ∀ V : World, (∀ q o, q < w.heap.size + 1 → V.cell? ⟨q, o, none⟩ = wr.cell? ⟨q, o, none⟩) → V.cell? ⟨w.heap.size, 1, none⟩ = some (.slice (some ⟨b, off, none⟩) n cap) ∧ V.cell? ⟨b, off + k * 3, none⟩ = some (.bool p.used) ∧ V.cell? ⟨b, off + k * 3 + 1, none⟩ = some (.bool p.leaf) ∧ V.cell? ⟨b, off + k * 3 + 1 + 1, none⟩ = some (.slice p.a p.n p.cap) from fun V hV =>
        ⟨(hV _ _ (by omega)).trans a1, (hV _ _ (by omega)).trans d0, (hV _ _ (by omega)).trans d1, (hV _ _ (by omega)).trans d2⟩)
      have CC := Lib.hid (l5Copy_any p.leaf p.a p.n p.cap p.xs wr.drew (hrd.below (drew_below _)) hpn)
      have OL := Lib.hid (ownP_len HO.out)
      clear hp hrd
      go_upto_region 5 with (fail)
      refine wp_last ?_
      intro KK hKK
      go_cut [] (fun wx => ∃ (a5 : Option Addr) (c5 : Nat) (rs : List PgV), Hid (rs.length = k + 1) ∧ Hid (Loc wx w.heap.size #[.int .i64 root, .slice (some ⟨b, off, none⟩) n cap]) ∧ Hid (Loc wx (w.heap.size + 1) #[.int .i64 0, .slice none 0 0]) ∧ Hid (Loc wx G #[.int .i64 root, .slice a5 (k + 1) c5]) ∧ Hid (TagT 26 wx G) ∧ Hid (OwnP wx (w.heap.size + 2) (.slice a5 (k + 1) c5) rs) ∧ Hid (rs.map PgV.pg = (ps.take (k + 1)).map PgV.pg) ∧ Hid (Below w.heap.size w wx))
      case first => as_aux_lemma =>
        refine wp_region_noPanic ?_
        refine wp_region_held_drew (S := fun V => V.cell? ⟨w.heap.size, 1, none⟩ = some (.slice (some ⟨b, off, none⟩) n cap) ∧ V.cell? ⟨b, off + k * 3, none⟩ = some (.bool p.used) ∧ V.cell? ⟨b, off + k * 3 + 1, none⟩ = some (.bool p.leaf) ∧ V.cell? ⟨b, off + k * 3 + 1 + 1, none⟩ = some (.slice p.a p.n p.cap)) (by kernel_rfl) (KB.out _ (fun _ _ _ => rfl)) (fun hHeld => ?_)
        refine wpAnyH_take (i := 0) (v := ?v0_6) rfl (by kernel_rfl) (by kernel_rfl) (by kernel_rfl) (fun _ _ _ h => h) (Or.inl ⟨by rfl, ?hy0_6⟩) (by assumption) ?rest0_6
        case hy0_6 => intro w hSw; (try dsimp only at hSw); go_simp; (try with_reducible rfl)
        simp only [List.getElem_toArray, List.getElem_cons_zero, Act.put, List.setIfInBounds_toArray, List.set_cons_zero, List.set_cons_succ]
        refine wpAnyH_take (i := 2) (v := ?v2_7) rfl (by kernel_rfl) (by kernel_rfl) (by kernel_rfl) (fun _ _ _ h => h) (Or.inl ⟨by rfl, ?hy2_7⟩) (by assumption) ?rest2_7
        case hy2_7 => intro w hSw; (try dsimp only at hSw); go_simp; (try with_reducible rfl)
        simp only [List.getElem_toArray, List.getElem_cons_zero, List.getElem_cons_succ, Act.put, List.setIfInBounds_toArray, List.set_cons_zero, List.set_cons_succ]
        refine wpAnyH_take (i := 3) (v := ?v3_8) rfl (by kernel_rfl) (by kernel_rfl) (by kernel_rfl) (fun _ _ _ h => h) (Or.inl ⟨by rfl, ?hy3_8⟩) (by assumption) ?rest3_8
        case hy3_8 => intro w hSw; (try dsimp only at hSw); go_simp; (try with_reducible rfl)
        simp only [List.getElem_toArray, List.getElem_cons_zero, List.getElem_cons_succ, Act.put, List.setIfInBounds_toArray, List.set_cons_zero, List.set_cons_succ]
        refine wpAnyH_take (i := 4) (v := ?v4_9) rfl (by kernel_rfl) (by kernel_rfl) (by kernel_rfl) (fun _ _ _ h => h) (Or.inl ⟨by rfl, ?hy4_9⟩) (by assumption) ?rest4_9
        case hy4_9 => intro w hSw; (try dsimp only at hSw); go_simp; (try with_reducible rfl)
        simp only [List.getElem_toArray, List.getElem_cons_zero, List.getElem_cons_succ, Act.put, List.setIfInBounds_toArray, List.set_cons_zero, List.set_cons_succ]
        refine wpAnyH_take (i := 5) (v := ?v5_10) rfl (by kernel_rfl) (by kernel_rfl) (by kernel_rfl) (fun _ _ _ h => h) (Or.inl ⟨by rfl, ?hy5_10⟩) (by assumption) ?rest5_10
        case hy5_10 => intro w hSw; (try dsimp only at hSw); go_simp; (try with_reducible rfl)
        simp only [List.getElem_toArray, List.getElem_cons_zero, List.getElem_cons_succ, Act.put, List.setIfInBounds_toArray, List.set_cons_zero, List.set_cons_succ]
        refine wpAnyH_take (i := 6) (v := ?v6_11) rfl (by kernel_rfl) (by kernel_rfl) (by kernel_rfl) (fun _ _ _ h => h) (Or.inl ⟨by rfl, ?hy6_11⟩) (by assumption) ?rest6_11
        case hy6_11 => intro w hSw; (try dsimp only at hSw); go_simp; (try with_reducible rfl)
        simp only [List.getElem_toArray, List.getElem_cons_zero, List.getElem_cons_succ, Act.put, List.setIfInBounds_toArray, List.set_cons_zero, List.set_cons_succ]
        refine wpAnyH_take (i := 7) (v := ?v7_12) rfl (by kernel_rfl) (by kernel_rfl) (by kernel_rfl) (fun _ _ _ h => h) (Or.inl ⟨by rfl, ?hy7_12⟩) (by assumption) ?rest7_12
        case hy7_12 => intro w hSw; (try dsimp only at hSw); go_simp; (try with_reducible rfl)
        simp only [List.getElem_toArray, List.getElem_cons_zero, List.getElem_cons_succ, Act.put, List.setIfInBounds_toArray, List.set_cons_zero, List.set_cons_succ]
        refine wpAnyH_take (i := 8) (v := ?v8_13) rfl (by kernel_rfl) (by kernel_rfl) (by kernel_rfl) (fun _ _ _ h => h) (Or.inl ⟨by rfl, ?hy8_13⟩) (by assumption) ?rest8_13
        case hy8_13 => intro w hSw; (try dsimp only at hSw); go_simp; (try with_reducible rfl)
        simp only [List.getElem_toArray, List.getElem_cons_zero, List.getElem_cons_succ, Act.put, List.setIfInBounds_toArray, List.set_cons_zero, List.set_cons_succ]
        refine wpAnyH_take (i := 9) (v := ?v9_14) rfl (by kernel_rfl) (by kernel_rfl) (by kernel_rfl) (fun _ _ _ h => h) (Or.inl ⟨by rfl, ?hy9_14⟩) (by assumption) ?rest9_14
        case hy9_14 => intro w hSw; (try dsimp only at hSw); go_simp; (try with_reducible rfl)
        simp only [List.getElem_toArray, List.getElem_cons_zero, List.getElem_cons_succ, Act.put, List.setIfInBounds_toArray, List.set_cons_zero, List.set_cons_succ]
        refine wpAnyH_take (i := 10) (v := ?v10_15) rfl (by kernel_rfl) (by kernel_rfl) (by kernel_rfl) (fun _ _ _ h => h) (Or.inl ⟨by rfl, ?hy10_15⟩) (by assumption) ?rest10_15
        case hy10_15 => intro w hSw; (try dsimp only at hSw); go_simp; (try with_reducible rfl)
        simp only [List.getElem_toArray, List.getElem_cons_zero, List.getElem_cons_succ, Act.put, List.setIfInBounds_toArray, List.set_cons_zero, List.set_cons_succ]
        refine wpAnyH_take (i := 11) (v := ?v11_16) rfl (by kernel_rfl) (by kernel_rfl) (by kernel_rfl) (fun _ _ _ h => h) (Or.inl ⟨by rfl, ?hy11_16⟩) (by assumption) ?rest11_16
        case hy11_16 => intro w hSw; (try dsimp only at hSw); go_simp; (try with_reducible rfl)
        simp only [List.getElem_toArray, List.getElem_cons_zero, List.getElem_cons_succ, Act.put, List.setIfInBounds_toArray, List.set_cons_zero, List.set_cons_succ]
        refine wpAnyH_take (i := 12) (v := ?v12_17) rfl (by kernel_rfl) (by kernel_rfl) (by kernel_rfl) (fun _ _ _ h => h) (Or.inl ⟨by rfl, ?hy12_17⟩) (by assumption) ?rest12_17
        case hy12_17 => intro w hSw; (try dsimp only at hSw); go_simp; (try with_reducible rfl)
        simp only [List.getElem_toArray, List.getElem_cons_zero, List.getElem_cons_succ, Act.put, List.setIfInBounds_toArray, List.set_cons_zero, List.set_cons_succ]
        refine wpAnyH_take (i := 13) (v := ?v13_18) rfl (by kernel_rfl) (by kernel_rfl) (by kernel_rfl) (fun _ _ _ h => h) (Or.inl ⟨by rfl, ?hy13_18⟩) (by assumption) ?rest13_18
        case hy13_18 => intro w hSw; (try dsimp only at hSw); go_simp; (try with_reducible rfl)
        simp only [List.getElem_toArray, List.getElem_cons_zero, List.getElem_cons_succ, Act.put, List.setIfInBounds_toArray, List.set_cons_zero, List.set_cons_succ]
        refine wpAnyH_ready (rs := [1, 14]) (by kernel_rfl) (by simp) ?_
        refine AllReadyH.cons rfl (fun K hK => ?_) (AllReadyH.cons rfl (fun K hK => ?_) AllReadyH.nil)
        · go_simp
          refine hK.out _ _ (KB.out _ (fun _ _ _ => rfl)) (fun hHeld => ?_)
          clear hK K
          refine wpAnyH_ready (rs := [14]) (by kernel_rfl) (by simp) ?_
          refine AllReadyH.cons rfl (fun K hK => ?_) AllReadyH.nil
          go_simp
          refine CC.out.mono ?_
          rintro e w4 ⟨u4, rfl, o4, b4⟩
          obtain ⟨a4, c4, rfl, -⟩ := OwnS.rd o4
          have hk4 : Hid (∀ q o, q < w.heap.size + 1 → w4.cell? ⟨q, o, none⟩ = wr.cell? ⟨q, o, none⟩) := Lib.hid (fun q o hq => b4.cell (p := ⟨q, o, none⟩) (show q < wr.heap.size by omega))
          have L4 := Lib.hid ((KG.out.drew).below b4)
          have c4' := L4.out.2.1 1
          simp at c4'
          have l4 := (World.cell?_alloc_lt w4 (.cells #[.bool p.used, .bool p.leaf, .slice a4 p.xs.length c4] 70) ⟨G, 1, none⟩ L4.out.1).trans c4'
          have hk4a : Hid (∀ q o, q < w.heap.size + 1 → (w4.alloc (.cells #[.bool p.used, .bool p.leaf, .slice a4 p.xs.length c4] 70)).cell? ⟨q, o, none⟩ = wr.cell? ⟨q, o, none⟩) := Lib.hid (fun q o hq => (World.cell?_alloc_lt w4 _ ⟨q, o, none⟩ (show q < w4.heap.size by have := b4.size; have e : wr.drew.heap.size = wr.heap.size := rfl; omega)).trans (hk4.out q o hq))
          have B4 := Lib.hid b4
          have O4 := Lib.hid o4
          clear b4 o4
          refine hK.out _ _ (KB.out _ hk4.out) (fun hHeld => ?_)
          clear hK K
          refine wpAnyH_take (i := 15) (v := ?v15_1) rfl (by kernel_rfl) (by kernel_rfl) (by kernel_rfl) (fun _ _ _ h => h) (Or.inl ⟨by rfl, ?hy15_1⟩) (by assumption) ?rest15_1
          case hy15_1 => intro w hSw; (try dsimp only at hSw); go_simp; (try with_reducible rfl)
          simp only [List.getElem_toArray, List.getElem_cons_zero, List.getElem_cons_succ, Act.put, List.setIfInBounds_toArray, List.set_cons_zero, List.set_cons_succ]
          refine wpAnyH_ready (rs := [16]) (by kernel_rfl) (by simp) ?_
          refine AllReadyH.cons rfl (fun K hK => ?_) AllReadyH.nil
          go_simp
          refine hK.out _ _ (KB.out _ hk4a.out) (fun hHeld => ?_)
          clear hK K
          refine wpAnyH_ready (rs := [17]) (by kernel_rfl) (by simp) ?_
          refine AllReadyH.cons rfl (fun K hK => ?_) AllReadyH.nil
          refine step_append_src rfl (.tmp 17) (.tmp 32) 24 rfl (w.heap.size + 2) 70 i0 _ 3 40 Tryz.underlying24 hi.out hz0.out hz1.out hz2.out rfl (by decide) (.slice va k vc) k (qs.flatMap pgLay.cells) rfl (World.ownsRow.alloc (ownP_row ((HO.out.below (drew_below _)).below B4.out) HQ.out) _) (some ⟨w4.heap.size, 0, none⟩) 1 1 (pgLay.cells ⟨p.used, p.leaf, a4, p.xs.length, c4, p.xs⟩) rfl rfl (fun h => by cases h) (fun q hq => by cases hq; exact World.news_of_block (cs := #[.bool p.used, .bool p.leaf, .slice a4 p.xs.length c4]) (t := 70) (fr := (0, 0)) (heap_alloc_new w4 _)) (pgLay.one _) (by unfold maxLen; omega) (by omega) (by have := L4.out.1; simp; omega) ?_
          intro v5 w5 o5 g5
          obtain ⟨a5, c5, rfl⟩ := owns_shape o5
          have hrow : ∀ j, (Value.slice va k vc).ownBlock = some j → w.heap.size + 2 ≤ j := fun j hj => (World.ownsRow.lt HO.out.row j hj).1
          have hk5 : Hid (∀ q o, q < w.heap.size + 1 → w5.cell? ⟨q, o, none⟩ = wr.cell? ⟨q, o, none⟩) := Lib.hid (fun q o hq => (World.cell?_of_block (a := ⟨q, o, none⟩) (g5.block q (by have := L4.out.1; simp; omega) (fun e => by have := hrow q e.symm; omega))).trans (hk4a.out q o hq))
          have L5 : Hid (Loc w5 G #[.int .i64 root, .slice va k vc]) := Lib.hid ((L4.out.alloc _).grown g5 (fun j hj => TG.out.ne HO.out.row (by decide) j hj))
          have hk6 : Hid (∀ q o, q < w.heap.size + 1 → (w5.setCell ⟨G, 1, none⟩ (.slice a5 (k + 1) c5)).cell? ⟨q, o, none⟩ = wr.cell? ⟨q, o, none⟩) := Lib.hid (fun q o hq => (World.cell?_setCell_other _ _ _ _ (by intro e; simp only [Addr.mk.injEq] at e; omega)).trans (hk5.out q o hq))
          have j5 := L5.out.2.1
          have e5 := L5.out.2.2
          have G5 := Lib.hid g5
          have O5 := Lib.hid o5
          clear o5 g5
          refine hK.out _ _ (KB.out _ hk5.out) (fun hHeld => ?_)
          clear hK K
          refine wpAnyH_take (i := 18) (v := ?v18_2) rfl (by kernel_rfl) (by kernel_rfl) (by kernel_rfl) (fun _ _ _ h => h) (Or.inl ⟨by rfl, ?hy18_2⟩) (by assumption) ?rest18_2
          case hy18_2 => intro w hSw; (try dsimp only at hSw); go_simp; (try with_reducible rfl)
          simp only [List.getElem_toArray, List.getElem_cons_zero, List.getElem_cons_succ, Act.put, List.setIfInBounds_toArray, List.set_cons_zero, List.set_cons_succ]
          refine wpAnyH_ready (rs := [19]) (by kernel_rfl) (by simp) ?_
          refine AllReadyH.cons rfl (fun K hK => ?_) AllReadyH.nil
          go_simp
          refine hK.out _ _ (KB.out _ hk6.out) (fun hHeld => ?_)
          clear hK K
          refine wpAnyH_done (by kernel_rfl) ?_ _
          refine NoPanic.normal ?_
          clear hHeld
          have RR := Lib.hid (copy_round hGl hG2 KA.out KR.out TG.out HO.out HQ.out HP.out HT.out HB.out B4.out O4.out O5.out G5.out L5.out)
          clear O5 G5 L4
          go_wp2_with fail
          go_meet
          exact ⟨a5, c5, _, len_more HQ, RR.out⟩
        · go_simp
          refine CC.out.mono ?_
          rintro e w4 ⟨u4, rfl, o4, b4⟩
          obtain ⟨a4, c4, rfl, -⟩ := OwnS.rd o4
          have hk4 : Hid (∀ q o, q < w.heap.size + 1 → w4.cell? ⟨q, o, none⟩ = wr.cell? ⟨q, o, none⟩) := Lib.hid (fun q o hq => b4.cell (p := ⟨q, o, none⟩) (show q < wr.heap.size by omega))
          have L4 := Lib.hid ((KG.out.drew).below b4)
          have c4' := L4.out.2.1 1
          simp at c4'
          have l4 := (World.cell?_alloc_lt w4 (.cells #[.bool p.used, .bool p.leaf, .slice a4 p.xs.length c4] 70) ⟨G, 1, none⟩ L4.out.1).trans c4'
          have hk4a : Hid (∀ q o, q < w.heap.size + 1 → (w4.alloc (.cells #[.bool p.used, .bool p.leaf, .slice a4 p.xs.length c4] 70)).cell? ⟨q, o, none⟩ = wr.cell? ⟨q, o, none⟩) := Lib.hid (fun q o hq => (World.cell?_alloc_lt w4 _ ⟨q, o, none⟩ (show q < w4.heap.size by have := b4.size; have e : wr.drew.heap.size = wr.heap.size := rfl; omega)).trans (hk4.out q o hq))
          have B4 := Lib.hid b4
          have O4 := Lib.hid o4
          clear b4 o4
          refine hK.out _ _ (KB.out _ hk4.out) (fun hHeld => ?_)
          clear hK K
          refine wpAnyH_take (i := 15) (v := ?v15_5) rfl (by kernel_rfl) (by kernel_rfl) (by kernel_rfl) (fun _ _ _ h => h) (Or.inl ⟨by rfl, ?hy15_5⟩) (by assumption) ?rest15_5
          case hy15_5 => intro w hSw; (try dsimp only at hSw); go_simp; (try with_reducible rfl)
          simp only [List.getElem_toArray, List.getElem_cons_zero, List.getElem_cons_succ, Act.put, List.setIfInBounds_toArray, List.set_cons_zero, List.set_cons_succ]
          refine wpAnyH_ready (rs := [1, 16]) (by kernel_rfl) (by simp) ?_
          refine AllReadyH.cons rfl (fun K hK => ?_) (AllReadyH.cons rfl (fun K hK => ?_) AllReadyH.nil)
          · go_simp
            refine hK.out _ _ (KB.out _ hk4.out) (fun hHeld => ?_)
            clear hK K
            refine wpAnyH_ready (rs := [16]) (by kernel_rfl) (by simp) ?_
            refine AllReadyH.cons rfl (fun K hK => ?_) AllReadyH.nil
            go_simp
            refine hK.out _ _ (KB.out _ hk4a.out) (fun hHeld => ?_)
            clear hK K
            refine wpAnyH_ready (rs := [17]) (by kernel_rfl) (by simp) ?_
            refine AllReadyH.cons rfl (fun K hK => ?_) AllReadyH.nil
            refine step_append_src rfl (.tmp 17) (.tmp 32) 24 rfl (w.heap.size + 2) 70 i0 _ 3 40 Tryz.underlying24 hi.out hz0.out hz1.out hz2.out rfl (by decide) (.slice va k vc) k (qs.flatMap pgLay.cells) rfl (World.ownsRow.alloc (ownP_row ((HO.out.below (drew_below _)).below B4.out) HQ.out) _) (some ⟨w4.heap.size, 0, none⟩) 1 1 (pgLay.cells ⟨p.used, p.leaf, a4, p.xs.length, c4, p.xs⟩) rfl rfl (fun h => by cases h) (fun q hq => by cases hq; exact World.news_of_block (cs := #[.bool p.used, .bool p.leaf, .slice a4 p.xs.length c4]) (t := 70) (fr := (0, 0)) (heap_alloc_new w4 _)) (pgLay.one _) (by unfold maxLen; omega) (by omega) (by have := L4.out.1; simp; omega) ?_
            intro v5 w5 o5 g5
            obtain ⟨a5, c5, rfl⟩ := owns_shape o5
            have hrow : ∀ j, (Value.slice va k vc).ownBlock = some j → w.heap.size + 2 ≤ j := fun j hj => (World.ownsRow.lt HO.out.row j hj).1
            have hk5 : Hid (∀ q o, q < w.heap.size + 1 → w5.cell? ⟨q, o, none⟩ = wr.cell? ⟨q, o, none⟩) := Lib.hid (fun q o hq => (World.cell?_of_block (a := ⟨q, o, none⟩) (g5.block q (by have := L4.out.1; simp; omega) (fun e => by have := hrow q e.symm; omega))).trans (hk4a.out q o hq))
            have L5 : Hid (Loc w5 G #[.int .i64 root, .slice va k vc]) := Lib.hid ((L4.out.alloc _).grown g5 (fun j hj => TG.out.ne HO.out.row (by decide) j hj))
            have hk6 : Hid (∀ q o, q < w.heap.size + 1 → (w5.setCell ⟨G, 1, none⟩ (.slice a5 (k + 1) c5)).cell? ⟨q, o, none⟩ = wr.cell? ⟨q, o, none⟩) := Lib.hid (fun q o hq => (World.cell?_setCell_other _ _ _ _ (by intro e; simp only [Addr.mk.injEq] at e; omega)).trans (hk5.out q o hq))
            have j5 := L5.out.2.1
            have e5 := L5.out.2.2
            have G5 := Lib.hid g5
            have O5 := Lib.hid o5
            clear o5 g5
            refine hK.out _ _ (KB.out _ hk5.out) (fun hHeld => ?_)
            clear hK K
            refine wpAnyH_take (i := 18) (v := ?v18_3) rfl (by kernel_rfl) (by kernel_rfl) (by kernel_rfl) (fun _ _ _ h => h) (Or.inl ⟨by rfl, ?hy18_3⟩) (by assumption) ?rest18_3
            case hy18_3 => intro w hSw; (try dsimp only at hSw); go_simp; (try with_reducible rfl)
            simp only [List.getElem_toArray, List.getElem_cons_zero, List.getElem_cons_succ, Act.put, List.setIfInBounds_toArray, List.set_cons_zero, List.set_cons_succ]
            refine wpAnyH_ready (rs := [19]) (by kernel_rfl) (by simp) ?_
            refine AllReadyH.cons rfl (fun K hK => ?_) AllReadyH.nil
            go_simp
            refine hK.out _ _ (KB.out _ hk6.out) (fun hHeld => ?_)
            clear hK K
            refine wpAnyH_done (by kernel_rfl) ?_ _
            refine NoPanic.normal ?_
            clear hHeld
            have RR := Lib.hid (copy_round hGl hG2 KA.out KR.out TG.out HO.out HQ.out HP.out HT.out HB.out B4.out O4.out O5.out G5.out L5.out)
            clear O5 G5 L4
            go_wp2_with fail
            go_meet
            exact ⟨a5, c5, _, len_more HQ, RR.out⟩
          · go_simp
            refine hK.out _ _ (KB.out _ hk4a.out) (fun hHeld => ?_)
            clear hK K
            refine wpAnyH_ready (rs := [1]) (by kernel_rfl) (by simp) ?_
            refine AllReadyH.cons rfl (fun K hK => ?_) AllReadyH.nil
            go_simp
            refine hK.out _ _ (KB.out _ hk4a.out) (fun hHeld => ?_)
            clear hK K
            refine wpAnyH_ready (rs := [17]) (by kernel_rfl) (by simp) ?_
            refine AllReadyH.cons rfl (fun K hK => ?_) AllReadyH.nil
            refine step_append_src rfl (.tmp 17) (.tmp 32) 24 rfl (w.heap.size + 2) 70 i0 _ 3 40 Tryz.underlying24 hi.out hz0.out hz1.out hz2.out rfl (by decide) (.slice va k vc) k (qs.flatMap pgLay.cells) rfl (World.ownsRow.alloc (ownP_row ((HO.out.below (drew_below _)).below B4.out) HQ.out) _) (some ⟨w4.heap.size, 0, none⟩) 1 1 (pgLay.cells ⟨p.used, p.leaf, a4, p.xs.length, c4, p.xs⟩) rfl rfl (fun h => by cases h) (fun q hq => by cases hq; exact World.news_of_block (cs := #[.bool p.used, .bool p.leaf, .slice a4 p.xs.length c4]) (t := 70) (fr := (0, 0)) (heap_alloc_new w4 _)) (pgLay.one _) (by unfold maxLen; omega) (by omega) (by have := L4.out.1; simp; omega) ?_
            intro v5 w5 o5 g5
            obtain ⟨a5, c5, rfl⟩ := owns_shape o5
            have hrow : ∀ j, (Value.slice va k vc).ownBlock = some j → w.heap.size + 2 ≤ j := fun j hj => (World.ownsRow.lt HO.out.row j hj).1
            have hk5 : Hid (∀ q o, q < w.heap.size + 1 → w5.cell? ⟨q, o, none⟩ = wr.cell? ⟨q, o, none⟩) := Lib.hid (fun q o hq => (World.cell?_of_block (a := ⟨q, o, none⟩) (g5.block q (by have := L4.out.1; simp; omega) (fun e => by have := hrow q e.symm; omega))).trans (hk4a.out q o hq))
            have L5 : Hid (Loc w5 G #[.int .i64 root, .slice va k vc]) := Lib.hid ((L4.out.alloc _).grown g5 (fun j hj => TG.out.ne HO.out.row (by decide) j hj))
            have hk6 : Hid (∀ q o, q < w.heap.size + 1 → (w5.setCell ⟨G, 1, none⟩ (.slice a5 (k + 1) c5)).cell? ⟨q, o, none⟩ = wr.cell? ⟨q, o, none⟩) := Lib.hid (fun q o hq => (World.cell?_setCell_other _ _ _ _ (by intro e; simp only [Addr.mk.injEq] at e; omega)).trans (hk5.out q o hq))
            have j5 := L5.out.2.1
            have e5 := L5.out.2.2
            have G5 := Lib.hid g5
            have O5 := Lib.hid o5
            clear o5 g5
            refine hK.out _ _ (KB.out _ hk5.out) (fun hHeld => ?_)
            clear hK K
            refine wpAnyH_take (i := 18) (v := ?v18_4) rfl (by kernel_rfl) (by kernel_rfl) (by kernel_rfl) (fun _ _ _ h => h) (Or.inl ⟨by rfl, ?hy18_4⟩) (by assumption) ?rest18_4
            case hy18_4 => intro w hSw; (try dsimp only at hSw); go_simp; (try with_reducible rfl)
            simp only [List.getElem_toArray, List.getElem_cons_zero, List.getElem_cons_succ, Act.put, List.setIfInBounds_toArray, List.set_cons_zero, List.set_cons_succ]
            refine wpAnyH_ready (rs := [19]) (by kernel_rfl) (by simp) ?_
            refine AllReadyH.cons rfl (fun K hK => ?_) AllReadyH.nil
            go_simp
            refine hK.out _ _ (KB.out _ hk6.out) (fun hHeld => ?_)
            clear hK K
            refine wpAnyH_done (by kernel_rfl) ?_ _
            refine NoPanic.normal ?_
            clear hHeld
            have RR := Lib.hid (copy_round hGl hG2 KA.out KR.out TG.out HO.out HQ.out HP.out HT.out HB.out B4.out O4.out O5.out G5.out L5.out)
            clear O5 G5 L4
            go_wp2_with fail
            go_meet
            exact ⟨a5, c5, _, len_more HQ, RR.out⟩
      case rest =>
        obtain ⟨a5, c5, rs, hr⟩ := hcut
        refine hKK _ _ ?_
        go_wp2
        go_roundw
        case rel => exact ⟨k + 1, a5, c5, rs, by omega, by go_num, hr⟩
        case measure => simp [intOf]; omega
    · obtain rfl : k = n := by omega
      have HF : Hid (qs.map PgV.pg = ps.map PgV.pg) := by
        have := HT.out
        rw [List.take_of_length_le (by rw [HL.out]; exact Nat.le_refl _)] at this
        exact Lib.hid this
      obtain ⟨hRl, r0, e0⟩ := KR.out
      have hRG : w.heap.size + 1 ≠ G := by omega
      go_wp2
      refine bodyPost_ret (v := .agg #[.int .i64 root, .slice va k vc]) (by simp [results, Tryz.results87, go_sem, r0]) rfl ⟨_, qs, rfl, HF.out, ?_, ?_⟩
      · refine OwnP.mono (base' := w.heap.size + 2) ?_ (by omega)
        refine HO.out.frame _ _ (fun j h1 h2 => ?_) HO.out
        rw [Below.heap_setCell _ _ _ _ (by intro e; simp at e; omega), Below.heap_setCell _ _ _ _ (by intro e; simp at e; omega)]
      · exact (HB.out.setCell (p := ⟨w.heap.size + 1, 0, none⟩) (show w.heap.size ≤ w.heap.size + 1 by omega) _).setCell (p := ⟨w.heap.size + 1, 1, none⟩) (show w.heap.size ≤ w.heap.size + 1 by omega) _
end Go.Proofs.YtfefggcfeppeiaaGreat

/- The model's BookNew, NodeAt, Put. -/
namespace Go.Proofs.YtfefggcfeppeiaaGreat
open Go.RowKit

def zeroPg : Pg := ⟨false, false, []⟩
/-- The page of a number, or the zero one. -/
def pageAt (l : List Pg) (i : Int) : Pg := if 0 ≤ i then (l[i.toNat]?).getD zeroPg else zeroPg
theorem pageAt_no {l : List Pg} {i : Int} (h : ¬ (0 ≤ i ∧ i ≤ (l.length : Int) - 1)) : pageAt l i = zeroPg := by
  unfold pageAt
  split
  · rw [List.getElem?_eq_none (by omega)]; rfl
  · rfl
theorem pageAt_yes {ps : List PgV} {m : Nat} {p : PgV} (h : ps[m]? = some p) : pageAt (ps.map PgV.pg) m = p.pg := by
  unfold pageAt
  rw [if_pos (by omega), Int.toNat_natCast, List.getElem?_map, h]
  rfl

set_option maxRecDepth 100000 in
set_option maxHeartbeats 800000 in
theorem sBookNew_any (w : World) : Calls Tryz.prog 73 #[] w (NewBook 0 [⟨true, true, []⟩] w) := by
  have R := World.ownsRow_lit (base := w.heap.size + 1) (size := 3) (e := 70) (w.alloc (.cells #[.int .i64 0, .slice (some ⟨w.heap.size + 1, 0, none⟩) 1 1] 26)) #[.bool true, .bool true, .slice none 0 0] 1 (by simp) (by simp [maxLen]) rfl
  rw [show (w.alloc (.cells #[.int .i64 0, .slice (some ⟨w.heap.size + 1, 0, none⟩) 1 1] 26)).heap.size = w.heap.size + 1 by simp] at R
  have OP : Hid (OwnP ((w.alloc (.cells #[.int .i64 0, .slice (some ⟨w.heap.size + 1, 0, none⟩) 1 1] 26)).alloc (.cells #[.bool true, .bool true, .slice none 0 0] 70)) (w.heap.size + 1) (.slice (some ⟨w.heap.size + 1, 0, none⟩) 1 1) [⟨true, true, none, 0, 0, []⟩]) := by
    refine Lib.hid ⟨R, fun p hp => ?_, fun p hp => ?_, fun i j p q hij hp hq => ?_⟩
    · obtain rfl := List.mem_singleton.1 hp
      exact ownS_none _ _ _
    · obtain rfl := List.mem_singleton.1 hp
      exact (apart_none _ 0 0).1
    · obtain rfl := List.mem_singleton.1 (List.mem_of_getElem? hp)
      exact (apart_none _ 0 0).2
  have B0 : Hid (Below w.heap.size w ((w.alloc (.cells #[.int .i64 0, .slice (some ⟨w.heap.size + 1, 0, none⟩) 1 1] 26)).alloc (.cells #[.bool true, .bool true, .slice none 0 0] 70))) := Lib.hid (((Below.refl _ _).alloc (Nat.le_refl _) _).alloc (by simp) _)
  clear R
  go_enter Tryz.func73, Tryz.ntmps73
  go_wp2
  exact bodyPost_ret (v := .agg #[.int .i64 0, .slice (some ⟨w.heap.size + 1, 0, none⟩) 1 1]) (by simp [results, Tryz.results73, go_sem]) rfl ⟨_, [⟨true, true, none, 0, 0, []⟩], rfl, rfl, OP.out.mono (by omega), B0.out⟩

/-- A book is handed back. -/
theorem book_end {w W : World} {q base n vc : Nat} {root : Int} {va : Option Addr} {qs : List PgV} {out : List Pg} (HO : OwnP W base (.slice va n vc) qs) (hq : qs.map PgV.pg = out) (B : Below w.heap.size w W) (h1 : w.heap.size ≤ q) (h2 : q < base) (hb : w.heap.size ≤ base) :
    NewBook root out w (.returned (.agg #[.int .i64 root, .slice va n vc])) ((W.setCell ⟨q, 0, none⟩ (.int .i64 root)).setCell ⟨q, 1, none⟩ (.slice va n vc)) := by
  refine ⟨_, qs, rfl, hq, OwnP.mono (base' := base) ?_ hb, (B.setCell (p := ⟨q, 0, none⟩) h1 _).setCell (p := ⟨q, 1, none⟩) h1 _⟩
  refine HO.frame _ _ (fun j h3 h4 => ?_) HO
  rw [Below.heap_setCell _ _ _ _ (by intro e; simp at e; omega), Below.heap_setCell _ _ _ _ (by intro e; simp at e; omega)]
theorem map_setP {ps qs : List PgV} {m : Nat} {x : PgV} (h : qs.map PgV.pg = ps.map PgV.pg) : (qs.set m x).map PgV.pg = (ps.map PgV.pg).set m x.pg := by rw [List.map_set, h]
/-- A page is written over another. -/
def putV (l : List Pg) (i : Int) (p : Pg) : List Pg := if 0 ≤ i ∧ i ≤ (l.length : Int) - 1 then l.set i.toNat p else l
theorem len_pg {ps qs : List PgV} (h : qs.map PgV.pg = ps.map PgV.pg) : qs.length = ps.length := by
  have := congrArg List.length h
  simpa using this

set_option maxRecDepth 100000 in
set_option maxHeartbeats 3200000 in
theorem sPut_any (root i : Int) (a : Option Addr) (n cap : Nat) (ps : List PgV) (b : Bool) (a' : Option Addr) (n' cap' : Nat) (xs : List It) (w : World) (h : RdP w a n cap ps) (h' : RdS itLay w a' n' cap' xs) (hi : (Lit.int .i64 i).wf = true) (hn : n ≤ 1099511627776) (hn' : n' ≤ 1099511627776) (hps : ∀ p ∈ ps, p.n ≤ 1099511627776) :
    Calls Tryz.prog 92 #[.agg #[.int .i64 root, .slice a n cap], .int .i64 i, .agg #[.bool b, .slice a' n' cap']] w (NewBook root (putV (ps.map PgV.pg) i ⟨true, b, xs⟩) w) := by
  obtain ⟨l0, u0⟩ := bounds_i64 hi
  have hnc := h.1.1.2.1
  have hm := h.1.1.2.2.1
  unfold maxLen at hm
  have HL := Lib.hid h.1.1.1
  obtain ⟨W0, hW0⟩ : ∃ W0, W0 = ((w.alloc (.cells #[.int .i64 root, .slice a n cap] 26)).alloc (.cells #[.bool b, .slice a' n' cap'] 59)).alloc (.cells #[.int .i64 0, .slice none 0 0] 26) := ⟨_, rfl⟩
  have hs0 : W0.heap.size = w.heap.size + 1 + 1 + 1 := by subst hW0; simp
  have B0 : Below w.heap.size w W0 := by subst hW0; exact (((Below.refl _ _).alloc (Nat.le_refl _) _).alloc (by simp) _).alloc (by simp; omega) _
  have KA : Loc W0 w.heap.size #[.int .i64 root, .slice a n cap] := by subst hW0; exact ((Loc.new w _ _).alloc _).alloc _
  have KN : Loc W0 (w.heap.size + 1) #[.bool b, .slice a' n' cap'] := by
    subst hW0
    have := (Loc.new (w.alloc (.cells #[.int .i64 root, .slice a n cap] 26)) #[.bool b, .slice a' n' cap'] 59).alloc (.cells #[.int .i64 0, .slice none 0 0] 26)
    rw [show (w.alloc (.cells #[.int .i64 root, .slice a n cap] 26)).heap.size = w.heap.size + 1 by simp] at this
    exact this
  have KR : Loc W0 (w.heap.size + 1 + 1) #[.int .i64 0, .slice none 0 0] := by
    subst hW0
    have := Loc.new ((w.alloc (.cells #[.int .i64 root, .slice a n cap] 26)).alloc (.cells #[.bool b, .slice a' n' cap'] 59)) #[.int .i64 0, .slice none 0 0] 26
    rw [show ((w.alloc (.cells #[.int .i64 root, .slice a n cap] 26)).alloc (.cells #[.bool b, .slice a' n' cap'] 59)).heap.size = w.heap.size + 1 + 1 by simp] at this
    exact this
  have CC := Lib.hid (l7Copy_any root a n cap ps W0 (h.below B0) hn hps)
  have HX := Lib.hid (h'.below B0)
  obtain ⟨-, a0, fa⟩ := KA
  have hW := Lib.hid hW0
  have K3 := Lib.hid (And.intro KN KR)
  have KA : Hid (Loc W0 w.heap.size #[.int .i64 root, .slice a n cap]) := Lib.hid ⟨by omega, a0, fa⟩
  replace B0 := Lib.hid B0
  clear h h' hps KN KR fa
  have ka0 := a0 0
  have ka1 := a0 1
  simp at ka0 ka1
  go_enter Tryz.func92, Tryz.ntmps92
  go_wp2_with fail
  rw [← hW0]
  clear hW0
  refine CC.out.mono ?_
  rintro e w3 ⟨v3, qs, rfl, hq, ho, hb⟩
  obtain ⟨va, vc, rfl⟩ := ho.shape
  have hql := len_pg hq
  rw [HL.out] at hql
  rw [hql]
  rw [hql] at ho
  have s3 := hb.size
  have HQ := Lib.hid hq
  have KG := Lib.hid (Loc.new w3 #[.int .i64 root, .slice va n vc] 26)
  have KA3 := Lib.hid ((KA.out.below hb).alloc (.cells #[.int .i64 root, .slice va n vc] 26))
  have KN3 := Lib.hid ((K3.out.1.below hb).alloc (.cells #[.int .i64 root, .slice va n vc] 26))
  have KR3 := Lib.hid ((K3.out.2.below hb).alloc (.cells #[.int .i64 root, .slice va n vc] 26))
  have HO := Lib.hid (ho.below (new_below w3 (.cells #[.int .i64 root, .slice va n vc] 26)))
  have HX3 := Lib.hid ((HX.out.below hb).below (new_below w3 (.cells #[.int .i64 root, .slice va n vc] 26)))
  have HB := Lib.hid ((B0.out.trans (hb.mono (by omega))).alloc (by omega) (.cells #[.int .i64 root, .slice va n vc] 26))
  have HOL := Lib.hid (show ∀ g, (Value.slice va n vc).ownBlock = some g → g < w3.heap.size from fun g hg => (World.ownsRow.lt ho.row g hg).2)
  have HEL := Lib.hid (show ∀ q ∈ qs, ∀ g, q.sl.ownBlock = some g → g < w3.heap.size from fun q hq g hg => (World.ownsRow.lt (ho.ent q hq) g hg).2)
  clear ho hq hb CC K3 KA HX B0 a0 ka0 ka1
  obtain ⟨-, g0, fg⟩ := KG.out
  obtain ⟨-, a0, -⟩ := KA3.out
  obtain ⟨hNl, n0, -⟩ := KN3.out
  obtain ⟨hRl, r0, fr⟩ := KR3.out
  have hRG : w.heap.size + 1 + 1 ≠ w3.heap.size := by omega
  by_cases hin : 0 ≤ i ∧ i ≤ (n : Int) - 1
  · obtain ⟨h0, h1⟩ := hin
    obtain ⟨m, rfl⟩ := Int.eq_ofNat_of_zero_le h0
    have hmn : m < n := by omega
    have hv : Hid (putV (ps.map PgV.pg) m ⟨true, b, xs⟩ = (ps.map PgV.pg).set m ⟨true, b, xs⟩) := by
      show putV _ _ _ = _
      unfold putV
      rw [if_pos (by rw [List.length_map, HL.out]; exact ⟨h0, h1⟩), Int.toNat_natCast]
    obtain ⟨gb, rfl⟩ : ∃ g, va = some ⟨g, 0, none⟩ := own_head (ownP_row HO.out (ownP_len HO.out)) (by omega)
    have hgb := HO.out.lt.1
    have hgl := HOL.out gb rfl
    have z1 : (m : Int) < n := by omega
    have CC := Lib.hid (l5Copy_any b a' n' cap' xs ((w3.alloc (.cells #[.int .i64 root, .slice (some ⟨gb, 0, none⟩) n vc] 26))).drew (HX3.out.below (drew_below _)) hn')
    have hrow := Lib.hid (HO.out.below (drew_below _))
    have e1 := g0 1
    simp at e1
    have nn0 := n0 0
    have nn1 := n0 1
    simp at nn0 nn1
    go_wp2_with fail
    refine (l1In_yes m 0 ((n : Int) - 1) _ h0 h1).mono ?_
    rintro e w4 ⟨rfl, rfl⟩
    go_wp2_with fail
    go_region_law (refine step_go rfl 95 _ _ rfl #[.agg #[.bool b, .slice a' n' cap']] (by first | (simp [Act.eval]; done) | (simp [Act.eval, Act.put]; done)) (enters_of Tryz.func95 (by kernel_rfl) rfl) (R := fun v w' => ∃ u, v = .agg #[.bool b, u] ∧ OwnS itLay 77 w' ((w3.alloc (.cells #[.int .i64 root, .slice (some ⟨gb, 0, none⟩) n vc] 26))).drew.heap.size u xs ∧ Below ((w3.alloc (.cells #[.int .i64 root, .slice (some ⟨gb, 0, none⟩) n vc] 26))).drew.heap.size ((w3.alloc (.cells #[.int .i64 root, .slice (some ⟨gb, 0, none⟩) n vc] 26))).drew w') (CC.out.mono (fun e w' ⟨u, he, o, bb⟩ => ⟨_, he, u, rfl, o, bb⟩)) ?_; rintro v w5 ⟨u5, rfl, o5, b5⟩; obtain ⟨a5, c5, rfl, -⟩ := OwnS.rd o5; have P5 := Lib.hid (hrow.out.below b5); obtain ⟨y, hy, q0, q1, q2⟩ := ownP_at P5.out hmn; have fz := P5.out.froz; have L5 := Lib.hid ((KG.out.drew).below b5); have l5 := L5.out.2.1 1; simp at l5; have R5 := Lib.hid ((KR3.out.drew).below b5); have B5 := Lib.hid b5; have O5 := Lib.hid o5; have hgl5 := P5.out.lt.2; clear o5 b5 hy)
    all_goals
      have s5 := B5.out.size
      have e0 : ((w3.alloc (.cells #[.int .i64 root, .slice (some ⟨gb, 0, none⟩) n vc] 26))).drew.heap.size = w3.heap.size + 1 := by show ((w3.alloc (.cells #[.int .i64 root, .slice (some ⟨gb, 0, none⟩) n vc] 26))).heap.size = _; simp
      have P6 : Hid (OwnP (((w5.setCell ⟨gb, m * 3, none⟩ (.bool true)).setCell ⟨gb, m * 3 + 1, none⟩ (.bool b)).setCell ⟨gb, m * 3 + 1 + 1, none⟩ (.slice a5 xs.length c5)) W0.heap.size (.slice (some ⟨gb, 0, none⟩) n vc) (qs.set m ⟨true, b, a5, xs.length, c5, xs⟩)) := by
        have ho : ∀ g, (PgV.sl ⟨true, b, a5, xs.length, c5, xs⟩).ownBlock = some g → w3.heap.size + 1 ≤ g := fun g hg => by
          have := (World.ownsRow.lt O5.out g hg).1
          omega
        refine Lib.hid (P5.out.set m ⟨true, b, a5, xs.length, c5, xs⟩ (by rw [ownP_len P5.out]; exact hmn) rfl (O5.out.mono (by omega)) (fun g h3 h4 => ?_) (fun j q _ hq g h3 h4 => ?_))
        · have h5 := ho g h4
          have e : gb = g := by simpa [Value.ownBlock] using h3
          omega
        · have h5 := ho g h4
          have h6 := HEL.out q (List.mem_of_getElem? hq) g h3
          omega
      have M6 : Hid ((qs.set m ⟨true, b, a5, xs.length, c5, xs⟩).map PgV.pg = (ps.map PgV.pg).set m ⟨true, b, xs⟩) := Lib.hid (map_setP HQ.out)
      have B6 : Hid (Below w.heap.size w (((w5.setCell ⟨gb, m * 3, none⟩ (.bool true)).setCell ⟨gb, m * 3 + 1, none⟩ (.bool b)).setCell ⟨gb, m * 3 + 1 + 1, none⟩ (.slice a5 xs.length c5))) := by
        have h3 : w.heap.size ≤ gb := by omega
        exact Lib.hid (((((HB.out.drew).trans (B5.out.mono (by omega))).setCell (p := ⟨gb, m * 3, none⟩) h3 _).setCell (p := ⟨gb, m * 3 + 1, none⟩) h3 _).setCell (p := ⟨gb, m * 3 + 1 + 1, none⟩) h3 _)
      have G6 := ((L5.out.other (m * 3) (.bool true) (show gb ≠ w3.heap.size by omega)).other (m * 3 + 1) (.bool b) (show gb ≠ w3.heap.size by omega)).other (m * 3 + 1 + 1) (.slice a5 xs.length c5) (show gb ≠ w3.heap.size by omega)
      have R6 := ((R5.out.other (m * 3) (.bool true) (show gb ≠ w.heap.size + 1 + 1 by omega)).other (m * 3 + 1) (.bool b) (show gb ≠ w.heap.size + 1 + 1 by omega)).other (m * 3 + 1 + 1) (.slice a5 xs.length c5) (show gb ≠ w.heap.size + 1 + 1 by omega)
      obtain ⟨-, x0, -⟩ := G6
      obtain ⟨hR6, y0, fy⟩ := R6
      go_wp2
      refine bodyPost_ret (v := .agg #[.int .i64 root, .slice (some ⟨gb, 0, none⟩) n vc]) (by simp [results, Tryz.results92, go_sem, y0]) rfl ?_
      rw [hv.out]
      exact book_end P6.out M6.out B6.out (by omega) (by omega) (by omega)
  · have hv : Hid (putV (ps.map PgV.pg) i ⟨true, b, xs⟩ = ps.map PgV.pg) := Lib.hid (if_neg (by rw [List.length_map, HL.out]; exact hin))
    go_wp2_with fail
    refine (l1In_no i 0 ((n : Int) - 1) _ hin).mono ?_
    rintro e w4 ⟨rfl, rfl⟩
    go_wp2
    refine bodyPost_ret (v := .agg #[.int .i64 root, .slice va n vc]) (by simp [results, Tryz.results92, go_sem, r0]) rfl ?_
    rw [hv.out]
    exact book_end HO.out HQ.out HB.out (by omega) (by omega) (by omega)
end Go.Proofs.YtfefggcfeppeiaaGreat

/- Where in a slice of items an Id stands. -/
namespace Go.Proofs.YtfefggcfeppeiaaGreat
open Go.RowKit

def atV (id : Int) : List It → Int → Int
  | [], _ => -1
  | x :: l, k => if x.id = id then k else atV id l (k + 1)
theorem drop_at {xs : List It} {k : Nat} {x : It} (hx : xs[k]? = some x) : xs.drop k = x :: xs.drop (k + 1) := by
  obtain ⟨hlt, rfl⟩ := List.getElem?_eq_some_iff.1 hx
  exact List.drop_eq_getElem_cons hlt
theorem atV_yes {xs : List It} {k : Nat} {x : It} (id : Int) (hx : xs[k]? = some x) (h : x.id = id) : atV id (xs.drop k) k = k := by rw [drop_at hx, atV, if_pos h]
theorem atV_no {xs : List It} {k : Nat} {x : It} (id : Int) (hx : xs[k]? = some x) (h : x.id ≠ id) : atV id (xs.drop k) k = atV id (xs.drop (k + 1)) ((k + 1 : Nat) : Int) := by rw [drop_at hx, atV, if_neg h]; simp
theorem atV_end (xs : List It) (n : Nat) (id : Int) (h : xs.length ≤ n) : atV id (xs.drop n) n = -1 := by rw [List.drop_eq_nil_of_le h]; rfl
theorem ret_i64' {a b : Int} (h : a = b) : Ending.returned (.int .i64 a) = .returned (.int .i64 b) := by rw [h]

set_option maxRecDepth 100000 in
set_option maxHeartbeats 800000 in
theorem sItemAt_any (a : Option Addr) (n cap : Nat) (xs : List It) (id : Int) (w : World) (h : RdS itLay w a n cap xs) :
    Calls Tryz.prog 35 #[.slice a n cap, .int .i64 id] w fun e w' => e = .returned (.int .i64 (atV id xs 0)) ∧ Below w.heap.size w w' := by
  have hm := h.1.2.2.1
  have hnc := h.1.2.1
  unfold maxLen at hm
  have HR := Lib.hid h
  have HL := Lib.hid h.1.1
  clear h
  go_enter Tryz.func35, Tryz.ntmps35
  go_wp2
  go_loopw [5] (fun i wr => ∃ k : Nat, k ≤ n ∧ i = .int .i64 k ∧ atV id xs 0 = atV id (xs.drop k) k ∧ wr = w) (fun i _ => n - (intOf i).toNat)
  case atStart => exact ⟨0, Nat.zero_le _, rfl, rfl, rfl⟩
  case round =>
    obtain ⟨k, hk, rfl, hA, rfl⟩ := hrel
    have HA := Lib.hid hA
    clear hA
    by_cases hlt : k < n
    · obtain ⟨b, off, x, rfl, hbl, hx, d0, d1, d2, d3, d4⟩ := rdIt_at HR.out hlt
      have HX := Lib.hid hx
      have z0 : (0 : Int) ≤ k := by omega
      have z1 : (k : Int) < n := by omega
      clear hx
      by_cases h : x.id = id
      · have hr := Lib.hid (HA.out.trans (atV_yes id HX.out h))
        have h' : (x.id == id) = true := by simpa using h
        clear h
        go_wp2
        go_ret
        exact ⟨ret_i64' hr.out.symm, Below.refl _ _⟩
      · have hr := Lib.hid (HA.out.trans (atV_no id HX.out h))
        have h' : (x.id == id) = false := by simpa using h
        clear h
        go_wp2
        go_roundw
        case rel => exact ⟨k + 1, by omega, by go_num, hr.out, by trivial⟩
        case measure => simp [intOf]; omega
    · have hr : Hid (atV id xs 0 = -1) := by
        obtain rfl : k = n := by omega
        exact HA.out.trans (atV_end xs k id (by rw [HL.out]; exact Nat.le_refl _))
      go_wp2
      go_ret
      exact ⟨ret_i64' hr.out.symm, Below.refl _ _⟩
end Go.Proofs.YtfefggcfeppeiaaGreat

/- The model's Alloc and Free. -/
namespace Go.Proofs.YtfefggcfeppeiaaGreat
open Go.RowKit
attribute [local go_sem ↓] Go.wp_at_zero Go.wp_at_succ

def leafPg : Pg := ⟨true, true, []⟩
/-- Alloc: the pages, and the number of the one that was taken; -1 if there is none. -/
def allocV (l : List Pg) : List Pg × Int := match l.findIdx? (fun p => !p.used) with
  | some i => (l.set i leafPg, i)
  | none => if 48 ≤ l.length then (l, -1) else (l ++ [leafPg], l.length)
theorem free_at {ps : List PgV} {k : Nat} {p : PgV} (h : ∀ j q, j < k → ps[j]? = some q → q.used = true) (hp : ps[k]? = some p) (hu : p.used = false) : allocV (ps.map PgV.pg) = ((ps.map PgV.pg).set k leafPg, (k : Int)) := by
  have e : (ps.map PgV.pg).findIdx? (fun p => !p.used) = some k := by
    rw [List.findIdx?_eq_some_iff_getElem]
    obtain ⟨hk, rfl⟩ := List.getElem?_eq_some_iff.1 hp
    refine ⟨by simpa using hk, by simp [PgV.pg, hu], fun j hj => ?_⟩
    have := h j (ps[j]'(by omega)) hj (List.getElem?_eq_getElem _)
    simp [PgV.pg, this]
  unfold allocV
  rw [e]
theorem free_none {ps : List PgV} (h : ∀ j q, j < ps.length → ps[j]? = some q → q.used = true) : allocV (ps.map PgV.pg) = if 48 ≤ ps.length then (ps.map PgV.pg, -1) else (ps.map PgV.pg ++ [leafPg], (ps.length : Int)) := by
  have e : (ps.map PgV.pg).findIdx? (fun p => !p.used) = none := by
    rw [List.findIdx?_eq_none_iff]
    intro x hx
    obtain ⟨q, hq, rfl⟩ := List.mem_map.1 hx
    obtain ⟨j, hj⟩ := List.mem_iff_getElem?.1 hq
    have := h j q (List.getElem?_eq_some_iff.1 hj).1 hj
    simp [PgV.pg, this]
  unfold allocV
  rw [e]
  simp
/-- A book in new memory and a number. -/
def NewBookI (root : Int) (o : List Pg × Int) (w : World) (e : Ending) (w' : World) : Prop :=
  ∃ v ps, e = .returned (.tuple #[.agg #[.int .i64 root, v], .int .i64 o.2]) ∧ ps.map PgV.pg = o.1 ∧ OwnP w' w.heap.size v ps ∧ Below w.heap.size w w'
theorem OwnP.store {w : World} {base q : Nat} {v : Value} {ps : List PgV} (h : OwnP w base v ps) (t : TagT 26 w q) (j : Nat) (u : Value) : OwnP (w.setCell ⟨q, j, none⟩ u) base v ps := by
  have hG := grown_setCell (World.grownBy.refl w (some q)) q j u rfl
  exact ⟨OwnS.kept h.row hG (own_ne (t.ne h.row (by decide))), fun p hp => OwnS.kept (h.ent p hp) hG (own_ne (t.ne (h.ent p hp) (by decide))), h.out, h.pair⟩
theorem bookI_end {w W : World} {q base n vc : Nat} {root : Int} {va : Option Addr} {qs : List PgV} {o : List Pg × Int} {i : Int} (HO : OwnP W base (.slice va n vc) qs) (hq : qs.map PgV.pg = o.1) (hi : o.2 = i) (B : Below w.heap.size w W) (h1 : w.heap.size ≤ q) (h2 : q < base) (hb : w.heap.size ≤ base) :
    NewBookI root o w (.returned (.tuple #[.agg #[.int .i64 root, .slice va n vc], .int .i64 i])) ((W.setCell ⟨q, 0, none⟩ (.int .i64 root)).setCell ⟨q, 1, none⟩ (.slice va n vc)) := by
  obtain ⟨v, ps, he, hp, ho, hB⟩ := book_end (root := root) HO hq B h1 h2 hb
  refine ⟨v, ps, ?_, hp, ho, hB⟩
  simp only [Ending.returned.injEq, Value.agg.injEq] at he
  rw [he, hi]
theorem bookI_drew {w W : World} {root : Int} {o : List Pg × Int} {e : Ending} (h : NewBookI root o w e W) : NewBookI root o w e W.drew := by
  obtain ⟨v, ps, he, hp, ho, hB⟩ := h
  exact ⟨v, ps, he, hp, ho.below (drew_below _), hB.drew⟩

set_option maxRecDepth 100000 in
set_option maxHeartbeats 3200000 in
theorem sAlloc_any (root : Int) (a : Option Addr) (n cap : Nat) (ps : List PgV) (w : World) (h : RdP w a n cap ps) (hn : n ≤ 1099511627776) (hps : ∀ p ∈ ps, p.n ≤ 1099511627776) :
    Calls Tryz.prog 91 #[.agg #[.int .i64 root, .slice a n cap]] w (NewBookI root (allocV (ps.map PgV.pg)) w) := by
  have hnc := h.1.1.2.1
  have hm := h.1.1.2.2.1
  unfold maxLen at hm
  have HL := Lib.hid h.1.1.1
  obtain ⟨W0, hW0⟩ : ∃ W0, W0 = (w.alloc (.cells #[.int .i64 root, .slice a n cap] 26)).alloc (.cells #[.int .i64 0, .slice none 0 0] 26) := ⟨_, rfl⟩
  have hs0 : W0.heap.size = w.heap.size + 1 + 1 := by subst hW0; simp
  have B0 : Below w.heap.size w W0 := by subst hW0; exact ((Below.refl _ _).alloc (Nat.le_refl _) _).alloc (by simp) _
  have KA : Loc W0 w.heap.size #[.int .i64 root, .slice a n cap] := by subst hW0; exact (Loc.new w _ _).alloc _
  have KR : Loc W0 (w.heap.size + 1) #[.int .i64 0, .slice none 0 0] := by
    subst hW0
    have := Loc.new (w.alloc (.cells #[.int .i64 root, .slice a n cap] 26)) #[.int .i64 0, .slice none 0 0] 26
    rw [show (w.alloc (.cells #[.int .i64 root, .slice a n cap] 26)).heap.size = w.heap.size + 1 by simp] at this
    exact this
  have HR0 := h.below B0
  have CC := Lib.hid (l7Copy_any root a n cap ps W0 HR0 hn hps)
  have HR := Lib.hid HR0
  have a0 := KA.2.1
  replace KA := Lib.hid KA
  replace KR := Lib.hid KR
  replace B0 := Lib.hid B0
  have ka0 := a0 0
  have ka1 := a0 1
  simp at ka0 ka1
  clear h hps HR0 a0
  go_enter Tryz.func91, Tryz.ntmps91
  go_wp2_with fail
  rw [← hW0]
  clear hW0
  refine CC.out.mono ?_
  rintro e w3 ⟨v3, qs, rfl, hq, ho, hb⟩
  obtain ⟨va, vc, rfl⟩ := ho.shape
  have hql := len_pg hq
  rw [HL.out] at hql
  rw [hql]
  rw [hql] at ho
  have s3 := hb.size
  have HQ := Lib.hid hq
  have KG := Lib.hid (Loc.new w3 #[.int .i64 root, .slice va n vc] 26)
  have TG := Lib.hid (TagT.new 26 w3 #[.int .i64 root, .slice va n vc])
  have KA3 := Lib.hid ((KA.out.below hb).alloc (.cells #[.int .i64 root, .slice va n vc] 26))
  have KR3 := Lib.hid ((KR.out.below hb).alloc (.cells #[.int .i64 root, .slice va n vc] 26))
  have HR3 := Lib.hid ((HR.out.below hb).below (new_below w3 (.cells #[.int .i64 root, .slice va n vc] 26)))
  have HO := Lib.hid (ho.below (new_below w3 (.cells #[.int .i64 root, .slice va n vc] 26)))
  have HB := Lib.hid ((B0.out.trans (hb.mono (by omega))).alloc (by omega) (.cells #[.int .i64 root, .slice va n vc] 26))
  have HOL := Lib.hid (show ∀ g, (Value.slice va n vc).ownBlock = some g → g < w3.heap.size from fun g hg => (World.ownsRow.lt ho.row g hg).2)
  clear ho hq hb CC KA KR B0 ka0 ka1 HR
  have hs1 : w.heap.size + 1 < W0.heap.size := by omega
  replace hs0 := Lib.hid hs0
  obtain ⟨W4, hW4⟩ : ∃ W4, W4 = w3.alloc (.cells #[.int .i64 root, .slice va n vc] 26) := ⟨_, rfl⟩
  rw [← hW4] at KG TG KA3 KR3 HR3 HO HB
  have hs4 : w3.heap.size < W4.heap.size := by rw [hW4]; simp
  obtain ⟨-, g0, fg⟩ := KG.out
  obtain ⟨-, a0, -⟩ := KA3.out
  obtain ⟨hRl, r0, fr⟩ := KR3.out
  have hRG : w.heap.size + 1 ≠ w3.heap.size := by omega
  go_wp2
  rw [← hW4]
  replace hW4 := Lib.hid hW4
  go_loopw [5] (fun i wr => ∃ k : Nat, k ≤ n ∧ i = .int .i64 (k : Int) ∧ Hid (∀ j q, j < k → ps[j]? = some q → q.used = true) ∧ wr = W4) (fun i _ => n - (intOf i).toNat)
  case atStart => exact ⟨0, Nat.zero_le _, rfl, Lib.hid (fun j q hj => by omega), rfl⟩
  case round =>
    obtain ⟨k, hk, rfl, HU, rfl⟩ := hrel
    by_cases hlt : k < n
    · obtain ⟨b, off, p, rfl, hbl, hp, hrd, d0, d1, d2⟩ := rdP_at HR3.out hlt
      have HP := Lib.hid hp
      have z0 : (0 : Int) ≤ k := by omega
      have z1 : (k : Int) < n := by omega
      clear hp hrd
      cases hu : p.used with
      | true =>
        rw [hu] at d0
        have HU2 : Hid (∀ j q, j < k + 1 → ps[j]? = some q → q.used = true) := Lib.hid (fun j q hj hq => by
          by_cases hjk : j < k
          · exact HU.out j q hjk hq
          · obtain rfl : j = k := by omega
            obtain rfl : p = q := Option.some.inj (HP.out.symm.trans hq)
            exact hu)
        clear hu
        go_wp2
        go_roundw
        case rel => exact ⟨k + 1, by omega, by go_num, HU2, by trivial⟩
        case measure => simp [intOf]; omega
      | false =>
        rw [hu] at d0
        have hv : Hid (allocV (ps.map PgV.pg) = ((ps.map PgV.pg).set k leafPg, (k : Int))) := Lib.hid (free_at HU.out HP.out hu)
        obtain ⟨gb, rfl⟩ : ∃ g, va = some ⟨g, 0, none⟩ := own_head (ownP_row HO.out (ownP_len HO.out)) (by omega)
        have hgb := HO.out.lt
        have hgl := HOL.out gb rfl
        obtain ⟨y, hy, q0, q1, q2⟩ := ownP_at HO.out hlt
        have fz := HO.out.froz
        have P6 : Hid (OwnP (((wr.setCell ⟨gb, k * 3, none⟩ (.bool true)).setCell ⟨gb, k * 3 + 1, none⟩ (.bool true)).setCell ⟨gb, k * 3 + 1 + 1, none⟩ (.slice none 0 0)) W0.heap.size (.slice (some ⟨gb, 0, none⟩) n vc) (qs.set k ⟨true, true, none, 0, 0, []⟩)) :=
          Lib.hid (HO.out.set k ⟨true, true, none, 0, 0, []⟩ (by rw [ownP_len HO.out]; exact hlt) rfl (ownS_none _ _ _) (apart_none _ 0 0).1 (fun _ _ _ _ => (apart_none _ 0 0).1))
        have M6 : Hid ((qs.set k ⟨true, true, none, 0, 0, []⟩).map PgV.pg = (ps.map PgV.pg).set k leafPg) := Lib.hid (map_setP HQ.out)
        have h3 : w.heap.size ≤ gb := by omega
        have B6 := Lib.hid (((HB.out.setCell (p := ⟨gb, k * 3, none⟩) h3 (.bool true)).setCell (p := ⟨gb, k * 3 + 1, none⟩) h3 (.bool true)).setCell (p := ⟨gb, k * 3 + 1 + 1, none⟩) h3 (.slice none 0 0))
        obtain ⟨-, x0, -⟩ := ((KG.out.other (k * 3) (.bool true) (show gb ≠ w3.heap.size by omega)).other (k * 3 + 1) (.bool true) (show gb ≠ w3.heap.size by omega)).other (k * 3 + 1 + 1) (.slice none 0 0) (show gb ≠ w3.heap.size by omega)
        obtain ⟨hR6, y0, fy⟩ := ((KR3.out.other (k * 3) (.bool true) (show gb ≠ w.heap.size + 1 by omega)).other (k * 3 + 1) (.bool true) (show gb ≠ w.heap.size + 1 by omega)).other (k * 3 + 1 + 1) (.slice none 0 0) (show gb ≠ w.heap.size + 1 by omega)
        clear hu hy
        go_wp2
        refine bodyPost_ret (v := .tuple #[.agg #[.int .i64 root, .slice (some ⟨gb, 0, none⟩) n vc], .int .i64 k]) (by simp [results, Tryz.results91, go_sem, y0]) rfl ?_
        exact bookI_end P6.out (by rw [hv.out]; exact M6.out) (by rw [hv.out]) B6.out (by omega) (by omega) (by omega)
    · obtain rfl : k = n := by omega
      have hf := free_none (ps := ps) (fun j q hj hq => HU.out j q (by rw [HL.out] at hj; exact hj) hq)
      rw [HL.out] at hf
      by_cases h48 : 48 ≤ k
      · rw [if_pos h48] at hf
        have hv := Lib.hid hf
        have z48 : (k : Int) ≥ 48 := by omega
        clear hf
        go_wp2
        refine bodyPost_ret (v := .tuple #[.agg #[.int .i64 root, .slice va k vc], .int .i64 (-1)]) (by simp [results, Tryz.results91, go_sem, r0]) rfl ?_
        exact bookI_end HO.out (by rw [hv.out]; exact HQ.out) (by rw [hv.out]) HB.out (by omega) (by omega) (by omega)
      · rw [if_neg h48] at hf
        have hv := Lib.hid hf
        have z48 : ¬ (k : Int) ≥ 48 := by omega
        clear hf
        obtain ⟨i0, hi, hz0, hz1, hz2⟩ := info_parts Tryz.infoPage
        replace hi := Lib.hid hi
        replace hz0 := Lib.hid hz0
        replace hz1 := Lib.hid hz1
        replace hz2 := Lib.hid hz2
        have HQL := Lib.hid (ownP_len HO.out)
        have HNW := Lib.hid (World.news_of_block (cs := #[.bool true, .bool true, .slice none 0 0]) (t := 70) (fr := (0, 0)) (heap_alloc_new wr (.cells #[.bool true, .bool true, .slice none 0 0] 70)))
        have c1 := g0 1
        simp at c1
        have l1 := (World.cell?_alloc_lt wr (.cells #[.bool true, .bool true, .slice none 0 0] 70) ⟨w3.heap.size, 1, none⟩ hs4).trans c1
        go_wp2_with (at_builtin; refine append_src rfl (.tmp 36) (.tmp 39) 24 rfl W0.heap.size 70 i0 _ 3 40 Tryz.underlying24 hi.out hz0.out hz1.out hz2.out rfl (by decide) (.slice va k vc) k (qs.flatMap pgLay.cells) rfl (World.ownsRow.alloc (ownP_row HO.out HQL.out) _) (some ⟨wr.heap.size, 0, none⟩) 1 1 (pgLay.cells ⟨true, true, none, 0, 0, []⟩) rfl rfl (fun h => by cases h) (fun q hq => by cases hq; exact HNW.out) (pgLay.one _) ?_ ?_ ?_ ?_)
        case refine_1 => unfold maxLen; omega
        case refine_2 => omega
        case refine_3 => first | omega | (simp; omega)
        intro v5 w5 o5 g5
        obtain ⟨a5, c5, rfl⟩ := owns_shape o5
        have P5 : OwnP w5 W0.heap.size (.slice a5 (k + 1) c5) (qs ++ [⟨true, true, none, 0, 0, []⟩]) := OwnP.snoc (w := wr) (w1 := wr.alloc (.cells #[.bool true, .bool true, .slice none 0 0] 70)) HO.out (new_below _ _) (ownS_none _ _ _) (fun g hg => (by cases hg)) (by rw [HQL.out]; exact o5) g5
        have hrow : ∀ j, (Value.slice va k vc).ownBlock = some j → W0.heap.size ≤ j ∧ j ≠ w3.heap.size := fun j hj => ⟨(World.ownsRow.lt HO.out.row j hj).1, TG.out.ne HO.out.row (by decide) j hj⟩
        have L5 := (KG.out.alloc (.cells #[.bool true, .bool true, .slice none 0 0] 70)).grown g5 (fun j hj => (hrow j hj).2)
        have T5 : TagT 26 w5 w3.heap.size := TG.out.of ((g5.block _ (by simp; omega) (fun e => (hrow _ e.symm).2 rfl)).trans (Below.heap_alloc _ _ _ (by omega)))
        have P6 := Lib.hid (P5.store T5 1 (.slice a5 (k + 1) c5))
        have M6 : Hid ((qs ++ [(⟨true, true, none, 0, 0, []⟩ : PgV)]).map PgV.pg = ps.map PgV.pg ++ [leafPg]) := by
          show _ = _
          rw [List.map_append, HQ.out]
          rfl
        have A5 := (KA3.out.alloc (.cells #[.bool true, .bool true, .slice none 0 0] 70)).grown g5 (fun j hj => by have := (hrow j hj).1; omega)
        have R5 := (KR3.out.alloc (.cells #[.bool true, .bool true, .slice none 0 0] 70)).grown g5 (fun j hj => by have := (hrow j hj).1; omega)
        have hsl := g5.size
        try simp at hsl
        have B6 : Hid (Below w.heap.size w (w5.setCell ⟨w3.heap.size, 1, none⟩ (.slice a5 (k + 1) c5))) := Lib.hid (((HB.out.alloc (by omega) (.cells #[.bool true, .bool true, .slice none 0 0] 70)).grown g5 (by simp; omega) (fun j hj => by have := (hrow j hj).1; omega)).setCell (p := ⟨w3.heap.size, 1, none⟩) (show w.heap.size ≤ w3.heap.size by omega) _)
        obtain ⟨hx0, x0, ex⟩ := L5.set 1 (.slice a5 (k + 1) c5) (by show 1 < 2; decide)
        obtain ⟨-, u0, -⟩ := A5.other 1 (.slice a5 (k + 1) c5) (show w3.heap.size ≠ w.heap.size by omega)
        obtain ⟨hy0, y0, fy⟩ := R5.other 1 (.slice a5 (k + 1) c5) (show w3.heap.size ≠ w.heap.size + 1 by omega)
        obtain ⟨-, x5, fx5⟩ := L5
        obtain ⟨-, u5, -⟩ := A5
        obtain ⟨hR5, y5, fy5⟩ := R5
        clear o5 g5 P5 hrow T5 g0 fg a0 r0 fr
        go_wp2_with fail
        go_region
        all_goals
          go_wp2
          refine bodyPost_ret (v := .tuple #[.agg #[.int .i64 root, .slice a5 (k + 1) c5], .int .i64 k]) (by simp [results, Tryz.results91, go_sem, y0]) rfl ?_
          exact bookI_drew (bookI_end P6.out (by rw [hv.out]; exact M6.out) (by rw [hv.out]) B6.out (by omega) (by omega) (by omega))

/-- Free: the pages of these numbers are unused. -/
def freeV (l : List Pg) (ids : List Int) : List Pg := ids.foldl (fun acc i => putV acc i zeroPg) l
theorem freeV_more {l : List Pg} {ids : List Int} {k : Nat} {i : Int} (h : ids[k]? = some i) : freeV l (ids.take (k + 1)) = putV (freeV l (ids.take k)) i zeroPg := by
  unfold freeV
  rw [List.take_add_one, h, List.foldl_append]
  rfl
theorem OwnP.drew {w : World} {base : Nat} {v : Value} {ps : List PgV} (h : OwnP w base v ps) : OwnP w.drew base v ps := h.below (drew_below _)
theorem putV_no {l : List Pg} {i : Int} {p : Pg} (h : ¬ (0 ≤ i ∧ i ≤ (l.length : Int) - 1)) : putV l i p = l := if_neg h
theorem putV_yes {l : List Pg} {m : Nat} {p : Pg} (h : m < l.length) : putV l m p = l.set m p := by
  unfold putV
  rw [if_pos (by omega), Int.toNat_natCast]

end Go.Proofs.YtfefggcfeppeiaaGreat

/- Books that are marked, and their reading. -/
namespace Go.Proofs.YtfefggcfeppeiaaGreat
open Go.RowKit

/-- A page that is marked from k on. -/
def mkP (k : Int) (p : PgV) : PgV := ⟨k % 3 == 0, (k + 1) % 3 == 0, p.a, p.n, p.cap, markedI p.n (k + 1 + 1)⟩
def stepP (k : Int) (p : PgV) : Int := k + 1 + 1 + 5 * p.n
def markPs : Int → List PgV → List PgV
  | _, [] => []
  | k, p :: l => mkP k p :: markPs (stepP k p) l
def endP : Int → List PgV → Int
  | k, [] => k
  | k, p :: l => endP (stepP k p) l
theorem markPs_len : ∀ (k : Int) (ps : List PgV), (markPs k ps).length = ps.length
  | _, [] => rfl
  | k, p :: l => by rw [markPs, List.length_cons, markPs_len _ l, List.length_cons]
theorem markPs_snoc : ∀ (k : Int) (ps : List PgV) (p : PgV), markPs k (ps ++ [p]) = markPs k ps ++ [mkP (endP k ps) p]
  | _, [], _ => rfl
  | k, q :: l, p => by rw [List.cons_append, markPs, markPs, endP, markPs_snoc _ l p]; rfl
theorem endP_snoc : ∀ (k : Int) (ps : List PgV) (p : PgV), endP k (ps ++ [p]) = stepP (endP k ps) p
  | _, [], _ => rfl
  | k, q :: l, p => by rw [List.cons_append, endP, endP, endP_snoc _ l p]
theorem endP_eq : ∀ (k : Int) (ps : List PgV), endP k ps = k + 2 * ps.length + 5 * totP ps
  | k, [] => by simp [endP, totP]
  | k, p :: l => by
    rw [endP, endP_eq _ l]
    unfold stepP totP
    rw [List.map_cons, List.sum_cons, List.length_cons]
    omega
theorem endP_more {ps : List PgV} {m : Nat} {p : PgV} (h : ps[m]? = some p) (k : Int) : endP k (ps.take (m + 1)) = stepP (endP k (ps.take m)) p := by
  rw [List.take_add_one, h]
  exact endP_snoc k _ p
theorem endP_le : ∀ (l l' : List PgV) (k : Int), endP k l ≤ endP k (l ++ l') := fun l l' k => by
  rw [endP_eq, endP_eq, List.length_append]
  unfold totP
  rw [List.map_append, List.sum_append]
  omega
theorem endP_take_le (ps : List PgV) (m : Nat) (k : Int) : endP k (ps.take m) ≤ endP k ps := by
  conv => rhs; rw [← List.take_append_drop m ps]
  exact endP_le _ _ _
theorem markPs_app : ∀ (k : Int) (l l' : List PgV), markPs k (l ++ l') = markPs k l ++ markPs (endP k l) l'
  | _, [], _ => rfl
  | k, q :: l, l' => by rw [List.cons_append, markPs, markPs, endP, markPs_app _ l l']; rfl
theorem markPs_at {ps : List PgV} {m : Nat} {p : PgV} (h : ps[m]? = some p) (k : Int) : (markPs k ps)[m]? = some (mkP (endP k (ps.take m)) p) := by
  have hm : m < ps.length := (List.getElem?_eq_some_iff.1 h).1
  have hd : ps.drop m = p :: ps.drop (m + 1) := by
    obtain ⟨hlt, rfl⟩ := List.getElem?_eq_some_iff.1 h
    exact List.drop_eq_getElem_cons hlt
  have hl : (markPs k (ps.take m)).length = m := by rw [markPs_len, List.length_take]; omega
  conv => lhs; rw [← List.take_append_drop m ps, markPs_app, hd]
  rw [List.getElem?_append_right (by omega), hl, Nat.sub_self, markPs]
  rfl
/-- The first m pages are marked. -/
def halfP (k : Int) (ps : List PgV) (m : Nat) : List PgV := markPs k (ps.take m) ++ ps.drop m
theorem halfP_len (k : Int) (ps : List PgV) (m : Nat) : (halfP k ps m).length = ps.length := by
  unfold halfP
  rw [List.length_append, markPs_len, ← List.length_append, List.take_append_drop]
theorem halfP_at {ps : List PgV} {m : Nat} {p : PgV} (h : ps[m]? = some p) (k : Int) : (halfP k ps m)[m]? = some p := by
  have hm : m < ps.length := (List.getElem?_eq_some_iff.1 h).1
  unfold halfP
  rw [List.getElem?_append_right (by rw [markPs_len, List.length_take]; omega), markPs_len, List.length_take, Nat.min_eq_left (by omega), Nat.sub_self, List.getElem?_drop]
  exact h
theorem halfP_set {ps : List PgV} {m : Nat} {p : PgV} (h : ps[m]? = some p) (k : Int) : halfP k ps (m + 1) = (halfP k ps m).set m (mkP (endP k (ps.take m)) p) := by
  have hm : m < ps.length := (List.getElem?_eq_some_iff.1 h).1
  have hd : ps.drop m = p :: ps.drop (m + 1) := by
    obtain ⟨hlt, rfl⟩ := List.getElem?_eq_some_iff.1 h
    exact List.drop_eq_getElem_cons hlt
  unfold halfP
  have e : ps.take (m + 1) = ps.take m ++ [p] := by rw [List.take_add_one, h]; rfl
  have hl : (markPs k (ps.take m)).length = m := by rw [markPs_len, List.length_take]; omega
  rw [e, markPs_snoc, List.append_assoc, hd, List.set_append_right _ _ (by omega), hl, Nat.sub_self]
  rfl
theorem halfP_zero (k : Int) (ps : List PgV) : halfP k ps 0 = ps := by simp [halfP, markPs]
theorem halfP_end (k : Int) (ps : List PgV) : halfP k ps ps.length = markPs k ps := by simp [halfP]

/-- All that a book owns lies ahead of a bound. -/
def InB (hi : Nat) (v : Value) (ps : List PgV) : Prop := (∀ g, v.ownBlock = some g → g < hi) ∧ ∀ p ∈ ps, ∀ g, p.sl.ownBlock = some g → g < hi
theorem OwnP.inb {w : World} {base : Nat} {v : Value} {ps : List PgV} (h : OwnP w base v ps) : InB w.heap.size v ps := ⟨fun g hg => (World.ownsRow.lt h.row g hg).2, fun p hp g hg => (World.ownsRow.lt (h.ent p hp) g hg).2⟩

theorem flat_setP2 (ps : List PgV) (k : Nat) (p : PgV) (u b : Bool) (xs : List It) (hk : ps[k]? = some p) :
    ((ps.flatMap pgLay.cells).set (k * 3) (.bool u)).set (k * 3 + 1) (.bool b) = (ps.set k ⟨u, b, p.a, p.n, p.cap, xs⟩).flatMap pgLay.cells := by
  induction ps generalizing k with
  | nil => simp at hk
  | cons y l ih =>
    cases k with
    | zero =>
      obtain rfl : y = p := by simpa using hk
      simp [pgLay, List.flatMap_cons]
    | succ k =>
      have := ih k (by simpa using hk)
      simp only [List.flatMap_cons, List.set_cons_succ]
      rw [← this]
      have e : ∀ (j : Nat) (u : Value) (t : List Value), (pgLay.cells y ++ t).set ((k + 1) * 3 + j) u = pgLay.cells y ++ t.set (k * 3 + j) u := by
        intro j u t
        rw [List.set_append_right _ _ (by show 3 ≤ _; omega)]
        show pgLay.cells y ++ t.set ((k + 1) * 3 + j - 3) u = _
        rw [show (k + 1) * 3 + j - 3 = k * 3 + j by omega]
      have e0 := e 0
      simp only [Nat.add_zero] at e0
      rw [e0, e]
/-- A page of an owned row is marked: its two marks, then its entries where they lie. -/
theorem OwnP.mark {w w2 w3 : World} {base g n cap k : Nat} {ps : List PgV} {p : PgV} {u b : Bool} {xs : List It} (h : OwnP w base (.slice (some ⟨g, 0, none⟩) n cap) ps) (hp : ps[k]? = some p)
    (hw : w2 = (w.setCell ⟨g, k * 3, none⟩ (.bool u)).setCell ⟨g, k * 3 + 1, none⟩ (.bool b)) (hg3 : w2.grownBy w3 p.sl.ownBlock) (hx : OwnS itLay 77 w3 base p.sl xs) :
    OwnP w3 base (.slice (some ⟨g, 0, none⟩) n cap) (ps.set k ⟨u, b, p.a, p.n, p.cap, xs⟩) := by
  have hl := ownP_len h
  have hk : k < ps.length := (List.getElem?_eq_some_iff.1 hp).1
  have hmem := List.mem_of_getElem? hp
  subst hw
  have hG : w.grownBy _ (Value.slice (some ⟨g, 0, none⟩) n cap).ownBlock := grown_trans (grown_setCell (World.grownBy.refl w (some g)) g (k * 3) (.bool u) rfl) (grown_setCell (World.grownBy.refl _ (some g)) g (k * 3 + 1) (.bool b) rfl)
  refine ⟨?_, fun q hq => ?_, fun q hq => ?_, fun i j q r hij hq hr => ?_⟩
  · have hr := h.row
    have hs : OwnS pgLay 70 ((w.setCell ⟨g, k * 3, none⟩ (.bool u)).setCell ⟨g, k * 3 + 1, none⟩ (.bool b)) base (.slice (some ⟨g, 0, none⟩) n cap) (ps.set k ⟨u, b, p.a, p.n, p.cap, xs⟩) := by
      unfold OwnS at hr ⊢
      rw [List.length_set, ← flat_setP2 ps k p u b xs hp]
      rw [hl] at hr ⊢
      exact ((hr.stored (k * 3) _).1.stored (k * 3 + 1) _).1
    exact hs.keptApart hg3 (h.out p hmem)
  · obtain ⟨i, hi⟩ := List.mem_iff_getElem?.1 hq
    rw [List.getElem?_set] at hi
    split at hi
    · obtain rfl := Option.some.inj hi
      exact hx
    · rename_i e
      have hqm := List.mem_of_getElem? hi
      exact ((h.ent q hqm).keptApart hG (h.out q hqm).symm).keptApart hg3 (h.pair i k q p (Ne.symm e) hi hp)
  · rcases List.mem_or_eq_of_mem_set hq with h1 | rfl
    · exact h.out q h1
    · exact h.out p hmem
  · have hsl : ∀ (i : Nat) (q : PgV), (ps.set k ⟨u, b, p.a, p.n, p.cap, xs⟩)[i]? = some q → ∃ q', ps[i]? = some q' ∧ q'.sl = q.sl := by
      intro i q hq
      rw [List.getElem?_set] at hq
      split at hq
      · rename_i e
        subst e
        obtain rfl := Option.some.inj hq
        exact ⟨p, hp, rfl⟩
      · exact ⟨q, hq, rfl⟩
    obtain ⟨q', h1, e1⟩ := hsl i q hq
    obtain ⟨r', h2, e2⟩ := hsl j r hr
    rw [← e1, ← e2]
    exact h.pair i j q' r' hij h1 h2
theorem inb_set {hi k : Nat} {v : Value} {ps : List PgV} {p q : PgV} (h : InB hi v ps) (hp : ps[k]? = some p) (e : q.sl = p.sl) : InB hi v (ps.set k q) := by
  refine ⟨h.1, fun r hr g hg => ?_⟩
  rcases List.mem_or_eq_of_mem_set hr with h1 | rfl
  · exact h.2 r h1 g hg
  · rw [e] at hg
    exact h.2 p (List.mem_of_getElem? hp) g hg

end Go.Proofs.YtfefggcfeppeiaaGreat

/- The laws' own helpers on slices of ints: copy, equality, marking. -/
namespace Go.Proofs.YtfefggcfeppeiaaGreat
open Go.RowKit

theorem Tryz.infoI64 : (Tryz.prog.info? 3).map (fun i => (i.zero, i.size, i.bytes)) = some (some (.int .i64 0), 1, 8) := by kernel_rfl

end Go.Proofs.YtfefggcfeppeiaaGreat

/- What the program's functions on books are to answer (to be proved of the landed code). -/
namespace Go.Proofs.YtfefggcfeppeiaaGreat
open Go.RowKit

def CBookNew (f : FuncId) : Prop := ∀ w : World, Calls Tryz.prog f #[] w (NewBook 0 [⟨true, true, []⟩] w)
def CNodeAt (f : FuncId) : Prop := ∀ (root i : Int) (a : Option Addr) (n cap : Nat) (ps : List PgV) (w : World), RdP w a n cap ps → (Lit.int .i64 i).wf = true → (∀ p ∈ ps, p.n ≤ 1099511627776) →
  Calls Tryz.prog f #[.agg #[.int .i64 root, .slice a n cap], .int .i64 i] w (NewNode (pageAt (ps.map PgV.pg) i).leaf (pageAt (ps.map PgV.pg) i).xs w)
def CPut (f : FuncId) : Prop := ∀ (root i : Int) (a : Option Addr) (n cap : Nat) (ps : List PgV) (b : Bool) (a' : Option Addr) (n' cap' : Nat) (xs : List It) (w : World), RdP w a n cap ps → RdS itLay w a' n' cap' xs → (Lit.int .i64 i).wf = true → n ≤ 1099511627776 → n' ≤ 1099511627776 → (∀ p ∈ ps, p.n ≤ 1099511627776) →
  Calls Tryz.prog f #[.agg #[.int .i64 root, .slice a n cap], .int .i64 i, .agg #[.bool b, .slice a' n' cap']] w (NewBook root (putV (ps.map PgV.pg) i ⟨true, b, xs⟩) w)
def CAlloc (f : FuncId) : Prop := ∀ (root : Int) (a : Option Addr) (n cap : Nat) (ps : List PgV) (w : World), RdP w a n cap ps → n ≤ 1099511627776 → (∀ p ∈ ps, p.n ≤ 1099511627776) →
  Calls Tryz.prog f #[.agg #[.int .i64 root, .slice a n cap]] w (NewBookI root (allocV (ps.map PgV.pg)) w)
def CFree (f : FuncId) : Prop := ∀ (root : Int) (a : Option Addr) (n cap : Nat) (ps : List PgV) (al : Option Addr) (nl cl : Nat) (ids : List Int) (w : World), RdP w a n cap ps → RdI .i64 w al nl cl ids → n ≤ 1099511627776 → (∀ p ∈ ps, p.n ≤ 1099511627776) →
  Calls Tryz.prog f #[.agg #[.int .i64 root, .slice a n cap], .slice al nl cl] w (NewBook root (freeV (ps.map PgV.pg) ids) w)

/-- A new book lies in the block g, and its pages elsewhere. -/
def PutIn (w : World) (root : Int) (L : List Pg) (g : Nat) (V : World) : Prop := ∃ lo hi a q c, Below w.heap.size w V ∧ q.map PgV.pg = L ∧ OwnP V lo (.slice a q.length c) q ∧ Frame lo hi (fun V => OwnP V lo (.slice a q.length c) q) ∧ w.heap.size ≤ lo ∧ hi ≤ V.heap.size ∧ w.heap.size ≤ g ∧ g < V.heap.size ∧ (g < lo ∨ hi ≤ g) ∧ ∀ o, V.cell? ⟨g, o, none⟩ = (#[.int .i64 root, .slice a q.length c] : Array Value)[o]?
theorem putIn_new {w wc : World} {root : Int} {L : List Pg} {lo c : Nat} {a : Option Addr} {q : List PgV} (B : Below w.heap.size w wc) (e : q.map PgV.pg = L) (o : OwnP wc lo (.slice a q.length c) q) (hl : w.heap.size ≤ lo) :
    PutIn w root L wc.heap.size (wc.alloc (.cells #[.int .i64 root, .slice a q.length c] 26)) :=
  ⟨lo, wc.heap.size, a, q, c, B.alloc B.size _, e, o.below (new_below _ _), o.frame, hl, by simp, B.size, by simp, .inr (Nat.le_refl _), (blk_new wc _ _).1⟩
theorem putIn_old {w wc : World} {root : Int} {L : List Pg} {g lo c : Nat} {a : Option Addr} {q : List PgV} {u0 u1 : Value} (B : Below w.heap.size w wc) (e : q.map PgV.pg = L) (o : OwnP wc lo (.slice a q.length c) q) (hg : w.heap.size ≤ g) (hl : g < lo) (hs : g < wc.heap.size) (K : (∀ o, wc.cell? ⟨g, o, none⟩ = (#[u0, u1] : Array Value)[o]?) ∧ ∀ o, wc.frozen? ⟨g, o, none⟩ = false) :
    PutIn w root L g ((wc.setCell ⟨g, 0, none⟩ (.int .i64 root)).setCell ⟨g, 1, none⟩ (.slice a q.length c)) := by
  have KL : Loc wc g #[u0, u1] := ⟨hs, K.1, K.2⟩
  have K2 := (KL.set 0 (.int .i64 root) (by simp)).set 1 (.slice a q.length c) (by simp)
  simp at K2
  refine ⟨lo, wc.heap.size, a, q, c, (B.setCell (p := ⟨g, 0, none⟩) hg _).setCell (p := ⟨g, 1, none⟩) hg _, e, ?_, o.frame, by omega, by simp, hg, by simpa using hs, .inl hl, K2.2.1⟩
  refine o.frame _ _ (fun j h3 h4 => ?_) o
  rw [Below.heap_setCell _ _ _ _ (by intro e; simp at e; omega), Below.heap_setCell _ _ _ _ (by intro e; simp at e; omega)]

/-- How many entries the pages have. -/
def totG (l : List Pg) : Nat := (l.map (fun p => p.xs.length)).sum
theorem totP_pg {w : World} {base : Nat} {v : Value} {ps : List PgV} (h : OwnP w base v ps) : totP ps = totG (ps.map PgV.pg) := by
  unfold totP totG
  rw [List.map_map]
  congr 1
  refine List.map_congr_left fun p hp => ?_
  have := ownS_len (h.ent p hp)
  exact this.symm
theorem endP_pg {w : World} {base : Nat} {v : Value} {ps : List PgV} {out : List Pg} (h : OwnP w base v ps) (e : ps.map PgV.pg = out) (hb : 2 * out.length + 5 * totG out ≤ 900000000) : endP 1 ps ≤ 1000000000 := by
  subst e
  rw [endP_eq, totP_pg h]
  rw [List.length_map] at hb
  omega
theorem le_sum_mem : ∀ (l : List Nat) (x : Nat), x ∈ l → x ≤ l.sum
  | [], x, h => absurd h (by simp)
  | y :: l, x, h => by
    rw [List.sum_cons]
    rcases List.mem_cons.1 h with rfl | h
    · omega
    · have := le_sum_mem l x h
      omega
/-- No page has more entries than all of them. -/
theorem pgs_le {w : World} {base : Nat} {v : Value} {ps : List PgV} {out : List Pg} (h : OwnP w base v ps) (e : ps.map PgV.pg = out) {B : Nat} (hb : totG out ≤ B) : ∀ p ∈ ps, p.n ≤ B := by
  intro p hp
  subst e
  rw [← totP_pg h] at hb
  exact Nat.le_trans (le_sum_mem _ _ (List.mem_map_of_mem hp)) hb
theorem totP_rd {w : World} {a : Option Addr} {n cap : Nat} {ps : List PgV} (h : RdP w a n cap ps) : totP ps = totG (ps.map PgV.pg) := by
  unfold totP totG
  rw [List.map_map]
  congr 1
  refine List.map_congr_left fun p hp => ?_
  exact (h.2 p hp).1.1.symm
theorem pgs_rd {w : World} {a : Option Addr} {n cap : Nat} {ps : List PgV} {out : List Pg} (h : RdP w a n cap ps) (e : ps.map PgV.pg = out) {B : Nat} (hb : totG out ≤ B) : ∀ p ∈ ps, p.n ≤ B := by
  intro p hp
  subst e
  rw [← totP_rd h] at hb
  exact Nat.le_trans (le_sum_mem _ _ (List.mem_map_of_mem hp)) hb
theorem mem_totG {l : List Pg} {p : Pg} (h : p ∈ l) {B : Nat} (hb : totG l ≤ B) : p.xs.length ≤ B := by
  have h1 : p.xs.length ∈ l.map (fun p => p.xs.length) := List.mem_map.2 ⟨p, h, rfl⟩
  exact Nat.le_trans (le_sum_mem _ _ h1) hb
theorem pageAt_le {l : List Pg} (i : Int) {B : Nat} (hb : totG l ≤ B) : (pageAt l i).xs.length ≤ B := by
  unfold pageAt
  split
  · cases e : l[i.toNat]? with
    | none => exact Nat.zero_le _
    | some p => exact mem_totG (List.mem_of_getElem? e) hb
  · exact Nat.zero_le _
theorem sum_set : ∀ (l : List Nat) (k x : Nat), (l.set k x).sum ≤ l.sum + x
  | [], k, x => by simp
  | y :: l, 0, x => by simp; omega
  | y :: l, k + 1, x => by
    have := sum_set l k x
    simp
    omega
theorem totG_set (l : List Pg) (k : Nat) (p : Pg) : totG (l.set k p) ≤ totG l + p.xs.length := by
  unfold totG
  rw [List.map_set]
  exact sum_set _ _ _
theorem putV_le (l : List Pg) (i : Int) (p : Pg) : (putV l i p).length = l.length ∧ totG (putV l i p) ≤ totG l + p.xs.length := by
  unfold putV
  split
  · exact ⟨List.length_set, totG_set _ _ _⟩
  · exact ⟨rfl, Nat.le_add_right _ _⟩
theorem freeV_le : ∀ (ids : List Int) (l : List Pg), (freeV l ids).length = l.length ∧ totG (freeV l ids) ≤ totG l
  | [], l => ⟨rfl, Nat.le_refl _⟩
  | i :: ids, l => by
    obtain ⟨h1, h2⟩ := freeV_le ids (putV l i zeroPg)
    obtain ⟨h3, h4⟩ := putV_le l i zeroPg
    have h5 : zeroPg.xs.length = 0 := rfl
    exact ⟨h1.trans h3, Nat.le_trans h2 (by omega)⟩
theorem totG_app (l : List Pg) (p : Pg) : totG (l ++ [p]) = totG l + p.xs.length := by
  unfold totG
  simp
theorem allocV_le (l : List Pg) : (allocV l).1.length ≤ l.length + 1 ∧ totG (allocV l).1 ≤ totG l := by
  unfold allocV
  have h5 : leafPg.xs.length = 0 := rfl
  split
  · rename_i i _
    have := totG_set l i leafPg
    refine ⟨?_, Nat.le_trans this (by omega)⟩
    rw [List.length_set]; omega
  · split
    · exact ⟨Nat.le_add_right _ _, Nat.le_refl _⟩
    · refine ⟨?_, ?_⟩
      · show (l ++ [leafPg]).length ≤ _
        simp
      · show totG (l ++ [leafPg]) ≤ _
        rw [totG_app, h5]
        omega
theorem st2 {b g : Nat} {w V : World} {x y : Value} (B : Below b w V) (h : b ≤ g) : Below b w ((V.setCell ⟨g, 0, none⟩ x).setCell ⟨g, 1, none⟩ y) :=
  (B.setCell (p := ⟨g, 0, none⟩) h x).setCell (p := ⟨g, 1, none⟩) h y
theorem rdI_own {k : IntKind} {e : TypeId} {w : World} {base c : Nat} {a : Option Addr} {zs : List Int} (h : Own k e w base (.slice a zs.length c) zs) : RdI k w a zs.length c zs := by
  obtain ⟨a', c', e, r⟩ := h.rd
  cases e
  exact r
theorem len_pgs {ps : List PgV} {out : List Pg} (e : ps.map PgV.pg = out) : ps.length = out.length := by rw [← e, List.length_map]
end Go.Proofs.YtfefggcfeppeiaaGreat

/- What a walk from page to page reaches: the model's l7Has. -/
namespace Go.Proofs.YtfefggcfeppeiaaGreat
open Go.RowKit

/-- The pages that a page refers to. -/
def kidsP (p : Pg) : List It := if p.leaf then [] else p.xs
/-- A walk from page i, behind what was reached; no deeper than f. -/
def walkV (l : List Pg) : Nat → Int → List Int → List Int
  | 0, _, out => out
  | f + 1, i, out => if (pageAt l i).used && !(out.contains i) then (kidsP (pageAt l i)).foldl (fun acc x => walkV l f x.id acc) (out ++ [i]) else out
def reachV (l : List Pg) (root : Int) : List Int := walkV l (l.length + 1) root []

theorem has_yes {zs : List Int} {x : Int} {k : Nat} (hk : k < zs.length) (h : zs.getD k 0 = x) : zs.contains x = true := by
  rw [List.contains_iff_mem, ← h]
  rw [List.getD_eq_getElem?_getD, List.getElem?_eq_getElem hk]
  exact List.getElem_mem hk
theorem has_no {zs : List Int} {x : Int} (h : ∀ j, j < zs.length → zs.getD j 0 ≠ x) : zs.contains x = false := by
  cases e : zs.contains x with
  | false => rfl
  | true =>
    rw [List.contains_iff_mem] at e
    obtain ⟨j, hj, e2⟩ := List.getElem_of_mem e
    exact absurd (by rw [List.getD_eq_getElem?_getD, List.getElem?_eq_getElem hj]; exact e2) (h j hj)

theorem fold_inv {α : Type} {P : List Int → Prop} {g : List Int → α → List Int} : ∀ (l : List α) (a : List Int), P a → (∀ acc x, x ∈ l → P acc → P (g acc x)) → P (l.foldl g a)
  | [], _, h, _ => h
  | x :: l, a, h, hs => fold_inv l (g a x) (hs a x List.mem_cons_self h) (fun acc y hy => hs acc y (List.mem_cons_of_mem _ hy))
/-- Pages, each once. -/
def OutOk (l : List Pg) (zs : List Int) : Prop := zs.Nodup ∧ ∀ z ∈ zs, 0 ≤ z ∧ z < (l.length : Int)
theorem used_in {l : List Pg} {i : Int} (h : (pageAt l i).used = true) : 0 ≤ i ∧ i < (l.length : Int) := by
  by_cases e : 0 ≤ i ∧ i ≤ (l.length : Int) - 1
  · omega
  · rw [pageAt_no e] at h
    cases h
theorem OutOk.snoc {l : List Pg} {zs : List Int} {i : Int} (h : OutOk l zs) (hi : 0 ≤ i ∧ i < (l.length : Int)) (hn : zs.contains i = false) : OutOk l (zs ++ [i]) := by
  refine ⟨?_, fun z hz => ?_⟩
  · rw [List.nodup_append]
    refine ⟨h.1, by simp, fun x hx y hy => ?_⟩
    obtain rfl := List.mem_singleton.1 hy
    rintro rfl
    rw [← List.contains_iff_mem] at hx
    rw [hx] at hn
    cases hn
  · rcases List.mem_append.1 hz with h1 | h1
    · exact h.2 z h1
    · obtain rfl := List.mem_singleton.1 h1
      exact hi
theorem walkV_ok (l : List Pg) : ∀ (f : Nat) (i : Int) (zs : List Int), OutOk l zs → OutOk l (walkV l f i zs) ∧ ∃ t, walkV l f i zs = zs ++ t
  | 0, i, zs, h => ⟨h, [], by simp [walkV]⟩
  | f + 1, i, zs, h => by
    unfold walkV
    split
    · rename_i hc
      rw [Bool.and_eq_true, Bool.not_eq_true'] at hc
      have h1 := h.snoc (used_in hc.1) hc.2
      refine fold_inv (P := fun acc => OutOk l acc ∧ ∃ t, acc = zs ++ t) _ _ ⟨h1, [i], rfl⟩ (fun acc x _ hp => ?_)
      obtain ⟨h2, t, rfl⟩ := hp
      obtain ⟨h3, t', e⟩ := walkV_ok l f x.id (zs ++ t) h2
      exact ⟨h3, t ++ t', by rw [e, List.append_assoc]⟩
    · exact ⟨h, [], by simp⟩
theorem nodup_le : ∀ (n : Nat) (zs : List Int), zs.Nodup → (∀ z ∈ zs, 0 ≤ z ∧ z < (n : Int)) → zs.length ≤ n
  | 0, [], _, _ => Nat.le_refl _
  | 0, z :: zs, _, h => by have := h z List.mem_cons_self; omega
  | n + 1, zs, h, hz => by
    have h1 := nodup_le n (zs.erase (n : Int)) (h.erase _) (fun z hm => by
      have h2 := hz z (List.mem_of_mem_erase hm)
      have h3 : z ≠ (n : Int) := fun e => by
        subst e
        exact absurd hm (List.Nodup.not_mem_erase h)
      omega)
    rw [List.length_erase] at h1
    split at h1 <;> omega
theorem OutOk.len {l : List Pg} {zs : List Int} (h : OutOk l zs) : zs.length ≤ l.length := nodup_le _ _ h.1 h.2

set_option maxRecDepth 100000 in
set_option maxHeartbeats 800000 in
theorem l7Has_any (a : Option Addr) (n c : Nat) (zs : List Int) (x : Int) (w : World) (h : RdI .i64 w a n c zs) :
    Calls Tryz.prog 64 #[.slice a n c, .int .i64 x] w fun e w' => e = .returned (.bool (zs.contains x)) ∧ Below w.heap.size w w' := by
  have HL := Lib.hid h.1.1
  have HR := Lib.hid h
  have hm := h.1.2.2.1
  have hnc := h.1.2.1
  unfold maxLen at hm
  clear h
  go_enter Tryz.func64, Tryz.ntmps64
  go_wp2
  go_loopw [5] (fun i wr => ∃ k : Nat, k ≤ n ∧ i = .int .i64 k ∧ Hid (∀ j, j < k → zs.getD j 0 ≠ x) ∧ Below w.heap.size w wr) (fun i _ => n - (intOf i).toNat)
  case atStart => exact ⟨0, Nat.zero_le _, rfl, Lib.hid (fun j hj => by omega), Below.refl _ _⟩
  case round =>
    obtain ⟨k, hk, rfl, HA, hB⟩ := hrel
    by_cases hlt : k < n
    · obtain ⟨b, off, rfl, hc⟩ := HR.out.2 (by omega)
      have hck := hc k hlt
      have hbw : b < w.heap.size := World.block_lt_of_cell? w ⟨b, off + k, none⟩ hck
      rw [← hB.cell (p := ⟨b, off + k, none⟩) hbw] at hck
      clear hc
      have h0 : (0 : Int) ≤ k := by omega
      have h1 : (k : Int) < n := by omega
      obtain ⟨p, hp⟩ : ∃ p, zs.getD k 0 = p := ⟨_, rfl⟩
      rw [hp] at hck
      by_cases he : p = x
      · subst he
        have HF : Hid (zs.contains p = true) := Lib.hid (has_yes (by rw [HL.out]; exact hlt) hp)
        clear hp
        go_wp2
        go_ret
        exact ⟨ret_bool HF.out.symm, hB⟩
      · have hne : (p == x) = false := by rw [beq_eq_false_iff_ne]; exact he
        have HS : Hid (∀ j, j < k + 1 → zs.getD j 0 ≠ x) := Lib.hid (fun j hj => by
          by_cases hjk : j < k
          · exact HA.out j hjk
          · obtain rfl : j = k := by omega
            rw [hp]
            exact he)
        clear he hp
        go_wp2
        go_roundw
        case rel => exact ⟨k + 1, by omega, by go_num, HS, hB⟩
        case measure => simp [intOf]; omega
    · have HF : Hid (zs.contains x = false) := Lib.hid (has_no (fun j hj => HA.out j (by rw [HL.out] at hj; omega)))
      go_wp2
      go_ret
      exact ⟨ret_bool HF.out.symm, hB⟩
end Go.Proofs.YtfefggcfeppeiaaGreat

/- The model's walk from page to page: it calls itself. -/
namespace Go.Proofs.YtfefggcfeppeiaaGreat
open Go.RowKit
attribute [local go_sem ↓] Go.wp_at_zero Go.wp_at_succ

/-- No block has turned but rows of ints. -/
def Turned (w w' : World) : Prop := w.heap.size ≤ w'.heap.size ∧ ∀ (k : Nat) (cs : Array Value) (T : TypeId) (fr : Nat × Nat), w.heap[k]? = some (.cells cs T fr) → T ≠ 3 → w'.heap[k]? = w.heap[k]?
theorem Turned.refl (w : World) : Turned w w := ⟨Nat.le_refl _, fun _ _ _ _ _ _ => rfl⟩
theorem Turned.trans {a b c : World} (h : Turned a b) (k : Turned b c) : Turned a c :=
  ⟨Nat.le_trans h.1 k.1, fun i cs T fr hi hT => (k.2 i cs T fr ((h.2 i cs T fr hi hT).trans hi) hT).trans (h.2 i cs T fr hi hT)⟩
theorem heap_lt {w : World} {k : Nat} {o : Obj} (h : w.heap[k]? = some o) : k < w.heap.size := by
  rw [Array.getElem?_eq_some_iff] at h
  exact h.1
theorem Turned.of_below {w w' : World} (h : Below w.heap.size w w') : Turned w w' := ⟨h.size, fun k _ _ _ hk _ => h.block k (heap_lt hk)⟩
theorem Turned.of_grown {w w' : World} {base s n : Nat} {v : Value} {xs : List Value} (h : w.grownBy w' v.ownBlock) (ho : w.ownsRow base 3 s v n xs) : Turned w w' :=
  ⟨h.size, fun k cs T fr hk hT => h.block k (heap_lt hk) (fun e => TagT.ne (⟨cs, fr, hk⟩ : TagT T w k) ho (Ne.symm hT) k e.symm rfl)⟩
theorem TagT.turned {w w' : World} {T : TypeId} {q : Nat} (h : TagT T w q) (hk : Turned w w') (hT : T ≠ 3) : TagT T w' q := by
  obtain ⟨cs, fr, e⟩ := h
  exact ⟨cs, fr, (hk.2 q cs T fr e hT).trans e⟩
theorem Loc.turned {w w' : World} {T : TypeId} {q : Nat} {cs : Array Value} (h : Loc w q cs) (ht : TagT T w q) (hk : Turned w w') (hT : T ≠ 3) : Loc w' q cs := by
  obtain ⟨cs', fr, e⟩ := ht
  exact h.of hk.1 (hk.2 q cs' T fr e hT)
/-- What a walk leaves: the pages reached, in a row of its own; nothing else has turned but rows of ints behind w0. -/
def Walked (w0 : World) (zs : List Int) (w : World) (e : Ending) (w' : World) : Prop :=
  ∃ v', e = .returned v' ∧ Own .i64 3 w' w0.heap.size v' zs ∧ Below w0.heap.size w0 w' ∧ Turned w w'
theorem walkV_succ (l : List Pg) (f : Nat) (i : Int) (out : List Int) : walkV l (f + 1) i out = if (pageAt l i).used && !(out.contains i) then (kidsP (pageAt l i)).foldl (fun acc x => walkV l f x.id acc) (out ++ [i]) else out := by rw [walkV]
theorem Walked.same {w0 w w' : World} {v : Value} {zs : List Int} (hB : Below w0.heap.size w0 w) (ho : Own .i64 3 w w0.heap.size v zs) (hb : Below w.heap.size w w') : Walked w0 zs w (.returned v) w' :=
  ⟨v, rfl, ho.below hb, hB.trans (hb.mono hB.size), Turned.of_below hb⟩

set_option maxRecDepth 100000 in
set_option maxHeartbeats 3200000 in
theorem l7Walk_any (root : Int) (a : Option Addr) (n cap : Nat) (ps : List PgV) (w0 : World) (h : RdP w0 a n cap ps) (hn : n ≤ 1099511627776) : ∀ (f : Nat) (i : Int) (v : Value) (zs : List Int) (w : World), Below w0.heap.size w0 w → Own .i64 3 w w0.heap.size v zs → OutOk (ps.map PgV.pg) zs → n < f + zs.length →
    Calls Tryz.prog 67 #[.agg #[.int .i64 root, .slice a n cap], .int .i64 i, v] w (Walked w0 (walkV (ps.map PgV.pg) f i zs) w)
  | 0, i, v, zs, w, hB, ho, hz, hf => by
    have := hz.len
    rw [List.length_map, h.1.1.1] at this
    omega
  | f + 1, i, v, zs, w, hB, ho, hz, hf => by
    obtain ⟨i0, hi0, hz0, hz1, hz2⟩ := info_parts Tryz.infoI64
    replace hi0 := Lib.hid hi0
    replace hz0 := Lib.hid hz0
    replace hz1 := Lib.hid hz1
    replace hz2 := Lib.hid hz2
    have hnc := h.1.1.2.1
    have hm := h.1.1.2.2.1
    unfold maxLen at hm
    have HL := Lib.hid h.1.1.1
    have HR := Lib.hid h
    have hzl : zs.length ≤ n := by
      have := hz.len
      rw [List.length_map, h.1.1.1] at this
      exact this
    have IH := Lib.hid (l7Walk_any root a n cap ps w0 h hn f)
    have HO := Lib.hid ho
    have HB := Lib.hid hB
    have HZ := Lib.hid hz
    obtain ⟨W0, hW0⟩ : ∃ W0, W0 = w.alloc (.cells #[.int .i64 root, .slice a n cap] 26) := ⟨_, rfl⟩
    have b0 : Below w.heap.size w W0 := by subst hW0; exact new_below w _
    have K0 : Loc W0 w.heap.size #[.int .i64 root, .slice a n cap] := by subst hW0; exact Loc.new w _ _
    have s0 : W0.heap.size = w.heap.size + 1 := by subst hW0; simp
    have T0 : TagT 26 W0 w.heap.size := by subst hW0; exact TagT.new _ _ _
    obtain ⟨va, vc, rfl, hr⟩ := Own.rd ho
    have k1 := K0.2.1 1
    simp at k1
    have HR0 := h.below (hB.trans (b0.mono hB.size))
    clear h ho hB hz
    by_cases hin : 0 ≤ i ∧ i ≤ (n : Int) - 1
    · obtain ⟨h0, h1⟩ := hin
      obtain ⟨m, rfl⟩ := Int.eq_ofNat_of_zero_le h0
      have z1 : (m : Int) < n := by omega
      obtain ⟨b, off, p, rfl, hbl, hp, hrd, d0, d1, d2⟩ := rdP_at HR0 (show m < n by omega)
      have hv : pageAt (ps.map PgV.pg) m = p.pg := pageAt_yes hp
      cases hu : p.used with
      | false =>
        have hr2 : walkV (ps.map PgV.pg) (f + 1) m zs = zs := by
          rw [walkV_succ]
          rw [hv]
          show (if (p.used && _) = true then _ else _) = _
          rw [hu]
          rfl
        rw [hu] at d0
        rw [hr2]
        clear hv hr2 hp hrd hr
        go_enter Tryz.func67, Tryz.ntmps67
        go_wp2_with fail
        rw [← hW0]
        clear hW0
        refine (l1In_yes m 0 ((n : Int) - 1) _ h0 h1).mono ?_
        rintro e w2 ⟨rfl, rfl⟩
        go_wp2
        go_ret
        exact Walked.same HB.out HO.out b0
      | true =>
        rw [hu] at d0
        have CH := Lib.hid (l7Has_any va zs.length vc zs m W0 (hr.below b0))
        cases hc : zs.contains (m : Int) with
        | true =>
          have hr2 : walkV (ps.map PgV.pg) (f + 1) m zs = zs := by
            rw [walkV_succ]
            rw [hc, Bool.not_true, Bool.and_false]
            rfl
          rw [hr2]
          rw [hc] at CH
          clear hv hr2 hp hrd hr
          go_enter Tryz.func67, Tryz.ntmps67
          go_wp2_with fail
          rw [← hW0]
          clear hW0
          refine (l1In_yes m 0 ((n : Int) - 1) _ h0 h1).mono ?_
          rintro e w2 ⟨rfl, rfl⟩
          go_wp2_with fail
          refine CH.out.mono ?_
          rintro e w2 ⟨rfl, b2⟩
          go_wp2
          go_ret
          exact Walked.same HB.out HO.out (b0.trans (b2.mono b0.size))
        | false =>
          have hr2 : Hid (walkV (ps.map PgV.pg) (f + 1) m zs = (kidsP p.pg).foldl (fun acc x => walkV (ps.map PgV.pg) f x.id acc) (zs ++ [(m : Int)])) := by
            show walkV _ _ _ _ = _
            rw [walkV_succ]
            rw [hv, hc]
            show (if (p.used && _) = true then _ else _) = _
            rw [hu]
            rfl
          rw [hr2.out]
          rw [hc] at CH
          have HZ2 : Hid (OutOk (ps.map PgV.pg) (zs ++ [(m : Int)])) := Lib.hid (HZ.out.snoc (by rw [List.length_map, HL.out]; omega) hc)
          have HRD := Lib.hid hrd
          have hpx := Lib.hid hp
          clear hv hp hrd hr hc hu
          go_enter Tryz.func67, Tryz.ntmps67
          go_wp2_with fail
          rw [← hW0]
          clear hW0
          refine (l1In_yes m 0 ((n : Int) - 1) _ h0 h1).mono ?_
          rintro e w2 ⟨rfl, rfl⟩
          go_wp2_with fail
          refine CH.out.mono ?_
          rintro e w2 ⟨rfl, b2⟩
          have HO2 := Lib.hid ((HO.out.below b0).below b2)
          have HB2 := Lib.hid ((HB.out.trans (b0.mono HB.out.size)).trans (b2.mono (Nat.le_trans HB.out.size b0.size)))
          have TU2 := Lib.hid ((Turned.of_below b0).trans (Turned.of_below b2))
          have K2 := Lib.hid (K0.below b2)
          have T2 := Lib.hid (T0.of (b2.block _ K0.1))
          have HRD2 := Lib.hid (HRD.out.below b2)
          have p0 := bcell b2
          have e0 := p0.1 b (off + m * 3) hbl
          have e1 := p0.1 b (off + m * 3 + 1) hbl
          have e2 := p0.1 b (off + m * 3 + 1 + 1) hbl
          rw [d0] at e0
          rw [d1] at e1
          rw [d2] at e2
          have s2 := b2.size
          have hb2 : b < w0.heap.size := HR.out.1.lt (by omega) rfl
          have hsB := HB.out.size
          clear d0 d1 d2 b2 b0 K0 T0 CH HRD k1 HR0 hbl p0
          go_wp2_with (at_builtin; refine append_src rfl (.tmp 31) (.tmp 33) 41 rfl w0.heap.size 3 i0 (.int .i64 0) 1 8 Tryz.underlying41 hi0.out hz0.out hz1.out hz2.out rfl (by decide) (.slice va zs.length vc) zs.length (zs.map (Value.int .i64)) rfl (World.ownsRow.alloc HO2.out _) (some ⟨w2.heap.size, 0, none⟩) 1 1 [.int .i64 (m : Int)] rfl rfl (fun h => by cases h) ?_ (ints_oneCell .i64 [(m : Int)]) ?_ ?_ ?_ ?_)
          case refine_1 =>
            intro q hq
            cases hq
            exact World.news_of_block (cs := #[.int .i64 (m : Int)]) (t := 3) (fr := (0, 0)) (heap_alloc_new w2 _)
          case refine_2 => unfold maxLen; omega
          case refine_3 => omega
          case refine_4 => simp; omega
          intro v3 w3 o3 g3
          obtain ⟨a3, c3, rfl⟩ := owns_shape o3
          have TU3 := Lib.hid (TU2.out.trans ((Turned.of_below (new_below w2 (.cells #[.int .i64 (m : Int)] 3))).trans (Turned.of_grown g3 (World.ownsRow.alloc HO2.out _))))
          have B3 := Lib.hid ((HB2.out.alloc HB2.out.size (.cells #[.int .i64 (m : Int)] 3)).grown g3 (by simp; omega) (fun j hj => by have := (World.ownsRow.lt HO2.out j hj).1; omega))
          have g0 := (Turned.of_below (new_below w2 (.cells #[.int .i64 (m : Int)] 3))).trans (Turned.of_grown g3 (World.ownsRow.alloc HO2.out _))
          have K3 := Lib.hid (K2.out.turned T2.out g0 (by decide))
          have T3 := Lib.hid (T2.out.turned g0 (by decide))
          have O3 : Hid (Own .i64 3 w3 w0.heap.size (.slice a3 (zs.length + 1) c3) (zs ++ [(m : Int)])) := by
            have := o3
            unfold Own
            rw [List.length_append, List.map_append]
            exact Lib.hid this
          have e1' := (B3.out.cell (p := ⟨b, off + m * 3 + 1, none⟩) hb2).trans ((HB2.out.cell (p := ⟨b, off + m * 3 + 1, none⟩) hb2).symm.trans e1)
          have e2' := (B3.out.cell (p := ⟨b, off + m * 3 + 1 + 1, none⟩) hb2).trans ((HB2.out.cell (p := ⟨b, off + m * 3 + 1 + 1, none⟩) hb2).symm.trans e2)
          have c1 := K3.out.2.1 1
          simp at c1
          have hq3 := K3.out.1
          obtain ⟨q1, hq1⟩ : ∃ q, q = w3.heap.size := ⟨_, rfl⟩
          obtain ⟨W4, hW4⟩ : ∃ W4, W4 = w3.alloc (.cells #[.bool p.leaf, .slice p.a p.n p.cap] 59) := ⟨_, rfl⟩
          have b4 : Below w3.heap.size w3 W4 := by subst hW4; exact new_below w3 _
          have KN := Lib.hid (show Loc W4 q1 #[.bool p.leaf, .slice p.a p.n p.cap] by subst hW4; subst hq1; exact Loc.new w3 _ _)
          have TN := Lib.hid (show TagT 59 W4 q1 by subst hW4; subst hq1; exact TagT.new _ _ _)
          have K4 := Lib.hid (K3.out.below b4)
          have T4 := Lib.hid (T3.out.turned (Turned.of_below b4) (by decide))
          have O4 := Lib.hid (O3.out.below b4)
          have B4 := Lib.hid (B3.out.trans (b4.mono B3.out.size))
          have U4 := Lib.hid (TU3.out.trans (Turned.of_below b4))
          clear o3 g3 g0 e0 e1 e2 b4 K3 T3 O3 B3 TU3 HO2 HB2 TU2 K2 T2 HRD2
          have kn0 := KN.out.2.1 0
          have kn1 := KN.out.2.1 1
          simp at kn0 kn1
          cases hlf : p.leaf with
          | true =>
            rw [hlf] at e1'
            have hk : Hid (kidsP p.pg = []) := by
              show kidsP p.pg = []
              unfold kidsP
              exact if_pos hlf
            rw [hlf] at kn0
            rw [hlf] at hW4
            go_wp2_with fail
            rw [← hW4, ← hq1]
            clear hW4 hq1
            go_loopw [2, 8] (fun v i wr => v = .slice a3 (zs.length + 1) c3 ∧ i = .int .i64 0 ∧ wr = W4) (fun _ _ _ => 0)
            case atStart => exact ⟨rfl, rfl, rfl⟩
            case round =>
              obtain ⟨rfl, rfl, rfl⟩ := hrel
              go_wp2
              all_goals
                go_ret
                rw [hk.out]
                refine ⟨_, rfl, ?_, B4.out, U4.out⟩
                have := O4.out
                unfold Own at this ⊢
                exact this
          | false =>
            rw [hlf] at e1'
            rw [hlf] at kn0
            rw [hlf] at hW4
            have hk : Hid (kidsP p.pg = p.xs) := by
              show kidsP p.pg = p.xs
              unfold kidsP
              exact if_neg (by rw [show p.pg.leaf = p.leaf from rfl, hlf]; exact Bool.false_ne_true)
            rw [hlf] at KN
            have HRD := Lib.hid (HR.out.2 p (List.mem_of_getElem? hpx.out))
            have HPN := Lib.hid HRD.out.1.1
            have hpc := HRD.out.1.2.1
            have hpm2 := HRD.out.1.2.2.1
            unfold maxLen at hpm2
            go_wp2_with fail
            rw [← hW4, ← hq1]
            clear hW4 hq1 kn0 kn1 c1 e1' e2' hq3
            go_loopw [2, 8] (fun v i wr => ∃ (k : Nat) (va : Option Addr) (vc na : Nat) (acc : List Int), k ≤ p.n ∧ v = .slice va na vc ∧ i = .int .i64 (k : Int) ∧ Hid (acc.length = na) ∧ Hid (acc = (p.xs.take k).foldl (fun acc x => walkV (ps.map PgV.pg) f x.id acc) (zs ++ [(m : Int)])) ∧ Hid (OutOk (ps.map PgV.pg) acc) ∧ Hid (zs.length + 1 ≤ acc.length) ∧ Hid (Own .i64 3 wr w0.heap.size (.slice va na vc) acc) ∧ Hid (Loc wr w.heap.size #[.int .i64 root, .slice (some ⟨b, off, none⟩) n cap]) ∧ Hid (TagT 26 wr w.heap.size) ∧ Hid (Loc wr q1 #[.bool false, .slice p.a p.n p.cap]) ∧ Hid (TagT 59 wr q1) ∧ Hid (Below w0.heap.size w0 wr) ∧ Hid (Turned w wr)) (fun _ i _ => p.n - (intOf i).toNat)
            case atStart =>
              exact ⟨0, a3, c3, zs.length + 1, _, Nat.zero_le _, rfl, rfl, Lib.hid (by simp), Lib.hid rfl, HZ2, Lib.hid (by simp), O4, K4, T4, KN, TN, B4, U4⟩
            case round =>
              clear O4 K4 T4 KN TN B4 U4
              obtain ⟨k, va5, vc5, na, acc, hk5, rfl, rfl, HNA, HACC, HOK, HLE, O5, K5, T5, KN5, TN5, B5, U5⟩ := hrel
              have c1 := K5.out.2.1 1
              have c0 := K5.out.2.1 0
              have n0 := KN5.out.2.1 0
              have n1 := KN5.out.2.1 1
              simp at c0 c1 n0 n1
              by_cases hlt : k < p.n
              · obtain ⟨bb, offb, x, hea, hbl, hx, d0, d1, d2, d3, d4⟩ := rdIt_at (HRD.out.below B5.out) hlt
                rw [hea] at n1
                have z2 : (k : Int) < p.n := by omega
                have hbb : bb < w0.heap.size := HRD.out.lt (by omega) hea
                have CI := IH.out x.id (.slice va5 na vc5) acc wr.drew B5.out.drew (O5.out.below (drew_below _)) HOK.out (by have := HLE.out; omega)
                obtain ⟨acc2, hacc2⟩ : ∃ acc2, walkV (ps.map PgV.pg) f x.id acc = acc2 := ⟨_, rfl⟩
                rw [hacc2] at CI
                replace CI := Lib.hid CI
                have HOK2 : Hid (OutOk (ps.map PgV.pg) acc2) := by rw [← hacc2]; exact Lib.hid (walkV_ok _ f x.id acc HOK.out).1
                have HLE2 : Hid (zs.length + 1 ≤ acc2.length) := by
                  obtain ⟨tt, e⟩ := (walkV_ok (ps.map PgV.pg) f x.id acc HOK.out).2
                  rw [hacc2] at e
                  have := HLE.out
                  refine Lib.hid ?_
                  rw [e, List.length_append]
                  omega
                have HACC2 : Hid (acc2 = (p.xs.take (k + 1)).foldl (fun acc x => walkV (ps.map PgV.pg) f x.id acc) (zs ++ [(m : Int)])) := by
                  show acc2 = _
                  rw [List.take_add_one, hx, List.foldl_append, ← HACC.out, ← hacc2]
                  rfl
                have KS : Hid (∀ V, Below w0.heap.size w0 V → Turned wr V → (fun V => Below w0.heap.size w0 V ∧ Turned wr V ∧ V.cell? ⟨w.heap.size, 0, none⟩ = some (.int .i64 root) ∧ V.cell? ⟨w.heap.size, 1, none⟩ = some (.slice (some ⟨b, off, none⟩) n cap) ∧ V.cell? ⟨q1, 1, none⟩ = some (.slice (some ⟨bb, offb, none⟩) p.n p.cap) ∧ V.cell? ⟨bb, offb + k * 5, none⟩ = some (.int .i64 x.id)) V) := Lib.hid (fun V b u => ⟨b, u, ((K5.out.turned T5.out u (by decide)).2.1 0).trans rfl, ((K5.out.turned T5.out u (by decide)).2.1 1).trans rfl, ((KN5.out.turned TN5.out u (by decide)).2.1 1).trans (by rw [hea]; rfl), (b.cell (p := ⟨bb, offb + k * 5, none⟩) hbb).trans ((B5.out.cell (p := ⟨bb, offb + k * 5, none⟩) hbb).symm.trans d0)⟩)
                have TD := Lib.hid (Turned.of_below (drew_below wr))
                have BD := Lib.hid B5.out.drew
                replace hea := Lib.hid hea
                clear hx hacc2
                go_wp2_with fail
                go_region_held3 (fun V => Below w0.heap.size w0 V ∧ Turned wr V ∧ V.cell? ⟨w.heap.size, 0, none⟩ = some (.int .i64 root) ∧ V.cell? ⟨w.heap.size, 1, none⟩ = some (.slice (some ⟨b, off, none⟩) n cap) ∧ V.cell? ⟨q1, 1, none⟩ = some (.slice (some ⟨bb, offb, none⟩) p.n p.cap) ∧ V.cell? ⟨bb, offb + k * 5, none⟩ = some (.int .i64 x.id))
                  (first | exact KS.out _ BD.out TD.out | exact KS.out _ b6 (TD.out.trans u6))
                  (first | (go_at_call 67; (with_reducible refine CI.out.mono ?_); rintro e w6 ⟨v6, rfl, o6, b6, u6⟩; obtain ⟨a6, c6, rfl, -⟩ := Own.rd o6))
                have TT := Lib.hid (TD.out.trans u6)
                have O6 := Lib.hid o6
                have B6 := Lib.hid b6
                have K6 := Lib.hid (K5.out.turned T5.out TT.out (by decide))
                have T6 := Lib.hid (T5.out.turned TT.out (by decide))
                have KN6 := Lib.hid (KN5.out.turned TN5.out TT.out (by decide))
                have TN6 := Lib.hid (TN5.out.turned TT.out (by decide))
                have U6 := Lib.hid (U5.out.trans TT.out)
                clear o6 b6 u6 KS CI
                go_wp2
                go_roundw
                case rel => exact ⟨k + 1, a6, c6, _, acc2, by omega, rfl, by go_num, Lib.hid rfl, HACC2, HOK2, HLE2, O6, K6, T6, KN6, TN6, B6, U6⟩
                case measure => simp [intOf]; omega
              · obtain rfl : k = p.n := by omega
                have hall : Hid (p.xs.take p.n = p.xs) := Lib.hid (List.take_of_length_le (by rw [HPN.out]; exact Nat.le_refl _))
                go_wp2
                go_ret
                rw [hk.out, ← hall.out, ← HACC.out]
                exact ⟨_, rfl, O5.out, B5.out, U5.out⟩
    · have hr2 : walkV (ps.map PgV.pg) (f + 1) i zs = zs := by
        rw [walkV_succ]
        rw [pageAt_no (by rw [List.length_map, HL.out]; exact hin)]
        rfl
      rw [hr2]
      clear hr2 hr
      go_enter Tryz.func67, Tryz.ntmps67
      go_wp2_with fail
      rw [← hW0]
      clear hW0
      refine (l1In_no i 0 ((n : Int) - 1) _ hin).mono ?_
      rintro e w2 ⟨rfl, rfl⟩
      go_wp2
      go_ret
      exact Walked.same HB.out HO.out b0

set_option maxRecDepth 100000 in
set_option maxHeartbeats 400000 in
/-- The model's Reach. -/
theorem sReach_any (root : Int) (a : Option Addr) (n cap : Nat) (ps : List PgV) (w : World) (h : RdP w a n cap ps) (hn : n ≤ 1099511627776) :
    Calls Tryz.prog 43 #[.agg #[.int .i64 root, .slice a n cap]] w fun e w' => ∃ v, e = .returned v ∧ Own .i64 3 w' w.heap.size v (reachV (ps.map PgV.pg) root) ∧ Below w.heap.size w w' := by
  have HL := h.1.1.1
  obtain ⟨W0, hW0⟩ : ∃ W0, W0 = w.alloc (.cells #[.int .i64 root, .slice a n cap] 26) := ⟨_, rfl⟩
  have b0 : Below w.heap.size w W0 := by subst hW0; exact new_below w _
  obtain ⟨W1, hW1⟩ : ∃ W1, W1 = W0.alloc (.cells #[] 3) := ⟨_, rfl⟩
  have b1 : Below W0.heap.size W0 W1 := by subst hW1; exact new_below W0 _
  have s0 : W0.heap.size = w.heap.size + 1 := by subst hW0; simp
  have O1 : Own .i64 3 W1 W0.heap.size (.slice (some ⟨W0.heap.size, 0, none⟩) 0 0) [] := by subst hW1; exact own_nil W0 3 1 W0.heap.size W0.heap.size rfl (Nat.le_refl _)
  have C := Lib.hid (l7Walk_any root a n cap ps W0 (h.below b0) hn (n + 1) root (.slice (some ⟨W0.heap.size, 0, none⟩) 0 0) [] W1 b1 O1 ⟨List.nodup_nil, fun z hz => by cases hz⟩ (by simp))
  have e : reachV (ps.map PgV.pg) root = walkV (ps.map PgV.pg) (n + 1) root [] := by
    unfold reachV
    rw [List.length_map, HL]
  rw [e]
  have K0 : W0.cell? ⟨w.heap.size, 0, none⟩ = some (.int .i64 root) ∧ W0.cell? ⟨w.heap.size, 1, none⟩ = some (.slice a n cap) := by subst hW0; exact ⟨(blk_new w _ _).1 0, (blk_new w _ _).1 1⟩
  obtain ⟨k0, k1⟩ := K0
  clear h
  go_enter Tryz.func43, Tryz.ntmps43
  go_wp2_with fail
  rw [← hW0]
  rw [← s0, ← hW1]
  clear hW0 hW1
  refine C.out.mono ?_
  rintro e w3 ⟨v3, rfl, o3, b3, -⟩
  have O3 := Lib.hid o3
  have B3 := Lib.hid (b0.trans (b3.mono b0.size))
  clear o3 b3 C
  go_wp2
  go_ret
  exact ⟨_, rfl, O3.out.mono (by omega), B3.out⟩
end Go.Proofs.YtfefggcfeppeiaaGreat

/- Where in a slice of entries a number stands. -/
namespace Go.Proofs.YtfefggcfeppeiaaGreat
open Go.RowKit

set_option maxRecDepth 100000 in
set_option maxHeartbeats 800000 in
theorem sEntryAt_any (a : Option Addr) (n cap : Nat) (xs : List It) (id : Int) (w : World) (h : RdS itLay w a n cap xs) :
    Calls Tryz.prog 83 #[.slice a n cap, .int .i64 id] w fun e w' => e = .returned (.int .i64 (atV id xs 0)) ∧ Below w.heap.size w w' := by
  have hm := h.1.2.2.1
  have hnc := h.1.2.1
  unfold maxLen at hm
  have HR := Lib.hid h
  have HL := Lib.hid h.1.1
  clear h
  go_enter Tryz.func83, Tryz.ntmps83
  go_wp2
  go_loopw [5] (fun i wr => ∃ k : Nat, k ≤ n ∧ i = .int .i64 k ∧ atV id xs 0 = atV id (xs.drop k) k ∧ wr = w) (fun i _ => n - (intOf i).toNat)
  case atStart => exact ⟨0, Nat.zero_le _, rfl, rfl, rfl⟩
  case round =>
    obtain ⟨k, hk, rfl, hA, rfl⟩ := hrel
    have HA := Lib.hid hA
    clear hA
    by_cases hlt : k < n
    · obtain ⟨b, off, x, rfl, hbl, hx, d0, d1, d2, d3, d4⟩ := rdIt_at HR.out hlt
      have HX := Lib.hid hx
      have z0 : (0 : Int) ≤ k := by omega
      have z1 : (k : Int) < n := by omega
      clear hx
      by_cases h : x.id = id
      · have hr := Lib.hid (HA.out.trans (atV_yes id HX.out h))
        have h' : (x.id == id) = true := by simpa using h
        clear h
        go_wp2
        go_ret
        exact ⟨ret_i64' hr.out.symm, Below.refl _ _⟩
      · have hr := Lib.hid (HA.out.trans (atV_no id HX.out h))
        have h' : (x.id == id) = false := by simpa using h
        clear h
        go_wp2
        go_roundw
        case rel => exact ⟨k + 1, by omega, by go_num, hr.out, by trivial⟩
        case measure => simp [intOf]; omega
    · have hr : Hid (atV id xs 0 = -1) := by
        obtain rfl : k = n := by omega
        exact HA.out.trans (atV_end xs k id (by rw [HL.out]; exact Nat.le_refl _))
      go_wp2
      go_ret
      exact ⟨ret_i64' hr.out.symm, Below.refl _ _⟩
end Go.Proofs.YtfefggcfeppeiaaGreat
