/- Pages in memory: a row whose elements hold rows of their own. What is read, what is owned, what a change elsewhere leaves. -/
import Derived.Test.YtnebhbnogmhbgaaNode
import Derived.Test.YtnebhbnogmhbgaaApart
import Derived.Test.YtnebhbnogmhbgaaLeafOf
namespace Go.Proofs.Ytnebhbnogmhbgaa
open Go.RowKit

/-- A page as it lies in memory: two marks and a slice of entries. -/
structure PgV where
  used : Bool
  leaf : Bool
  a : Option Addr
  n : Nat
  cap : Nat
  xs : List It
/-- What a page is. -/
structure Pg where
  used : Bool
  leaf : Bool
  xs : List It
def PgV.pg (p : PgV) : Pg := ⟨p.used, p.leaf, p.xs⟩
def PgV.sl (p : PgV) : Value := .slice p.a p.n p.cap
def pgLay : Lay PgV := ⟨3, fun p => [.bool p.used, .bool p.leaf, .slice p.a p.n p.cap], fun _ => rfl, by decide, fun x u hu => by simp at hu; rcases hu with rfl | rfl | rfl <;> rfl⟩
def zeroPgV : PgV := ⟨false, false, none, 0, 0, []⟩

/-- A slice of pages, read to the bottom. -/
def RdP (w : World) (a : Option Addr) (n cap : Nat) (ps : List PgV) : Prop := RdS pgLay w a n cap ps ∧ ∀ p ∈ ps, RdS itLay w p.a p.n p.cap p.xs
theorem RdP.below {w w' : World} {a : Option Addr} {n cap : Nat} {ps : List PgV} (h : RdP w a n cap ps) (hB : Below w.heap.size w w') : RdP w' a n cap ps := ⟨h.1.below hB, fun p hp => (h.2 p hp).below hB⟩
theorem rdP_nil (w : World) : RdP w none 0 0 [] := ⟨rdS_nil w, fun p hp => by cases hp⟩
/-- A page's three cells. -/
theorem rdP_at {w : World} {a : Option Addr} {n cap i : Nat} {ps : List PgV} (h : RdP w a n cap ps) (hi : i < n) :
    ∃ b off p, a = some ⟨b, off, none⟩ ∧ b < w.heap.size ∧ ps[i]? = some p ∧ RdS itLay w p.a p.n p.cap p.xs ∧ w.cell? ⟨b, off + i * 3, none⟩ = some (.bool p.used) ∧ w.cell? ⟨b, off + i * 3 + 1, none⟩ = some (.bool p.leaf) ∧
      w.cell? ⟨b, off + i * 3 + 1 + 1, none⟩ = some (.slice p.a p.n p.cap) := by
  obtain ⟨b, off, e, hlt, p, hp, hc⟩ := h.1.at_ hi
  exact ⟨b, off, p, e, hlt, hp, h.2 p (List.mem_of_getElem? hp), hc 0 _ rfl, hc 1 _ rfl, hc 2 _ rfl⟩

/-- What changes lies in the blocks lo, .., hi - 1. -/
structure ChgIn (lo hi : Nat) (w w' : World) : Prop where
  os : w'.os = w.os
  tape : w'.tape = w.tape
  output : w'.output = w.output
  size : w.heap.size ≤ w'.heap.size
  block : ∀ k, k < w.heap.size → ¬ (lo ≤ k ∧ k < hi) → w'.heap[k]? = w.heap[k]?
theorem ChgIn.refl (lo hi : Nat) (w : World) : ChgIn lo hi w w := ⟨rfl, rfl, rfl, Nat.le_refl _, fun _ _ _ => rfl⟩
theorem ChgIn.trans {lo hi : Nat} {a b c : World} (h : ChgIn lo hi a b) (k : ChgIn lo hi b c) : ChgIn lo hi a c :=
  ⟨k.os.trans h.os, k.tape.trans h.tape, k.output.trans h.output, Nat.le_trans h.size k.size, fun i hi hn => (k.block i (Nat.lt_of_lt_of_le hi h.size) hn).trans (h.block i hi hn)⟩
theorem ChgIn.of_grown {lo hi : Nat} {w w' : World} {row : Option Nat} (h : w.grownBy w' row) (hr : ∀ g, row = some g → lo ≤ g ∧ g < hi) : ChgIn lo hi w w' :=
  ⟨h.os, h.tape, h.output, h.size, fun k hk hn => h.block k hk (fun e => hn (hr k e.symm))⟩
theorem ChgIn.of_below {lo hi : Nat} {w w' : World} (h : Below w.heap.size w w') : ChgIn lo hi w w' := ⟨h.os, h.tape, h.output, h.size, fun k hk _ => h.block k hk⟩
theorem ChgIn.below {lo hi B : Nat} {a w w' : World} (h : Below B a w) (hs : B ≤ w.heap.size) (c : ChgIn lo hi w w') (hB : B ≤ lo) : Below B a w' :=
  ⟨c.os.trans h.os, c.tape.trans h.tape, c.output.trans h.output, Nat.le_trans h.size c.size, fun k hk => (c.block k (by omega) (by omega)).trans (h.block k hk)⟩
/-- What a fact about memory reads lies in the blocks lo, .., hi - 1. -/
def Frame (lo hi : Nat) (P : World → Prop) : Prop := ∀ w w' : World, (∀ k, lo ≤ k → k < hi → w'.heap[k]? = w.heap[k]?) → P w → P w'
theorem Frame.kept {lo hi : Nat} {P : World → Prop} (f : Frame lo hi P) {w w' : World} (h : P w) (hB : Below w.heap.size w w') (hs : hi ≤ w.heap.size) : P w' := f w w' (fun k _ hk => hB.block k (by omega)) h
theorem Frame.chg {lo hi lo' hi' : Nat} {P : World → Prop} (f : Frame lo hi P) {w w' : World} (h : P w) (c : ChgIn lo' hi' w w') (hs : hi ≤ w.heap.size) (hd : hi ≤ lo' ∨ hi' ≤ lo) : P w' :=
  f w w' (fun k h1 h2 => c.block k (by omega) (by omega)) h

section
variable {α : Type} {L : Lay α} {w w' : World} {e : TypeId} {base : Nat} {v : Value} {xs : List α}
theorem ownsRow_frame {size n : Nat} {xs : List Value} {hi : Nat} (hv : ∀ g, v.ownBlock = some g → base ≤ g ∧ g < hi) : Frame base hi (fun w => w.ownsRow base e size v n xs) := by
  rintro w w' ha ⟨h1, h2⟩
  refine ⟨h1, ?_⟩
  rcases h2 with h2 | ⟨g, cap, cur, hv', hg, hh, r⟩
  · exact .inl h2
  · refine .inr ⟨g, cap, cur, hv', hg, ?_, r⟩
    obtain ⟨h3, h4⟩ := hv g (by rw [hv']; rfl)
    rw [ha g h3 h4]
    exact hh
theorem OwnS.frame (h : OwnS L e w base v xs) : Frame base w.heap.size (fun w => OwnS L e w base v xs) := ownsRow_frame (fun g hg => World.ownsRow.lt h g hg)
theorem Own.frame {k : IntKind} {zs : List Int} (h : Own k e w base v zs) : Frame base w.heap.size (fun w => Own k e w base v zs) := ownsRow_frame (fun g hg => World.ownsRow.lt h g hg)
theorem RdS.frame {a : Option Addr} {n cap lo hi : Nat} (ha : ∀ b off, a = some ⟨b, off, none⟩ → 0 < n → lo ≤ b ∧ b < hi) : Frame lo hi (fun w => RdS L w a n cap xs) := by
  rintro w w' hh ⟨h1, h2⟩
  refine ⟨h1, fun hn => ?_⟩
  obtain ⟨b, off, e, hc⟩ := h2 hn
  refine ⟨b, off, e, fun i x hi j u hj => ?_⟩
  obtain ⟨h3, h4⟩ := ha b off e hn
  have := hc i x hi j u hj
  rw [← this]
  exact World.cell?_of_block (a := ⟨b, off + (i * L.sz + j), none⟩) (hh b h3 h4)
end
theorem cells_frame (q : Nat) (f : Nat → Option Value) : Frame q (q + 1) (fun w => ∀ o, w.cell? ⟨q, o, none⟩ = f o) := by
  intro w w' ha h o
  rw [← h o]
  exact World.cell?_of_block (a := ⟨q, o, none⟩) (ha q (Nat.le_refl _) (Nat.lt_succ_self _))

/-- A slice of pages that the call owns: the row, and each page's entries; all of them apart. -/
structure OwnP (w : World) (base : Nat) (v : Value) (ps : List PgV) : Prop where
  row : OwnS pgLay 48 w base v ps
  ent : ∀ p ∈ ps, OwnS itLay 91 w base p.sl p.xs
  out : ∀ p ∈ ps, Apart v p.sl
  pair : ∀ (i j : Nat) (p q : PgV), i ≠ j → ps[i]? = some p → ps[j]? = some q → Apart p.sl q.sl
theorem OwnP.frame {w : World} {base : Nat} {v : Value} {ps : List PgV} (h : OwnP w base v ps) : Frame base w.heap.size (fun w => OwnP w base v ps) := by
  intro w1 w2 ha k
  exact ⟨ownsRow_frame (fun g hg => World.ownsRow.lt h.row g hg) w1 w2 ha k.row, fun p hp => ownsRow_frame (fun g hg => World.ownsRow.lt (h.ent p hp) g hg) w1 w2 ha (k.ent p hp), k.out, k.pair⟩
theorem OwnP.below {w w' : World} {base : Nat} {v : Value} {ps : List PgV} (h : OwnP w base v ps) (hB : Below w.heap.size w w') : OwnP w' base v ps := h.frame.kept h hB (Nat.le_refl _)
theorem OwnP.mono {w : World} {base base' : Nat} {v : Value} {ps : List PgV} (h : OwnP w base' v ps) (hb : base ≤ base') : OwnP w base v ps := ⟨h.row.mono hb, fun p hp => (h.ent p hp).mono hb, h.out, h.pair⟩
theorem ownS_len {w : World} {base : Nat} {e : TypeId} {a : Option Addr} {n cap : Nat} {xs : List It} (h : OwnS itLay e w base (.slice a n cap) xs) : xs.length = n := by
  obtain ⟨a', c', hv, hr⟩ := h.rd
  simp only [Value.slice.injEq] at hv
  exact hv.2.1.symm
theorem ownP_len {w : World} {base : Nat} {a : Option Addr} {n cap : Nat} {ps : List PgV} (h : OwnP w base (.slice a n cap) ps) : ps.length = n := by
  obtain ⟨a', c', hv, hr⟩ := h.row.rd
  simp only [Value.slice.injEq] at hv
  exact hv.2.1.symm
theorem rdS_ownsP {w : World} {base : Nat} {e : TypeId} {a : Option Addr} {n cap : Nat} {xs : List It} (h : OwnS itLay e w base (.slice a n cap) xs) : RdS itLay w a n cap xs := by
  have := ownS_len h
  subst this
  exact rdS_owns h
theorem OwnP.rd {w : World} {base : Nat} {a : Option Addr} {n cap : Nat} {ps : List PgV} (h : OwnP w base (.slice a n cap) ps) : RdP w a n cap ps := by
  have hl := ownP_len h
  subst hl
  exact ⟨rdS_owns h.row, fun p hp => rdS_ownsP (h.ent p hp)⟩
theorem OwnP.shape {w : World} {base : Nat} {v : Value} {ps : List PgV} (h : OwnP w base v ps) : ∃ a c, v = .slice a ps.length c := by
  obtain ⟨a, c, e, _⟩ := h.row.rd
  exact ⟨a, c, e⟩
theorem ownP_none (w : World) (base : Nat) : OwnP w base (.slice none 0 0) [] := ⟨⟨rfl, .inl ⟨rfl, rfl⟩⟩, fun p hp => (by cases hp), fun p hp => (by cases hp), fun i j p q _ hp => (by simp at hp)⟩

/-- One page is written: its three cells, one by one. -/
theorem flat_setP (ps : List PgV) (k : Nat) (x : PgV) (hk : k < ps.length) :
    (((ps.flatMap pgLay.cells).set (k * 3) (.bool x.used)).set (k * 3 + 1) (.bool x.leaf)).set (k * 3 + 2) (.slice x.a x.n x.cap) = (ps.set k x).flatMap pgLay.cells := by
  induction ps generalizing k with
  | nil => simp at hk
  | cons y l ih =>
    cases k with
    | zero => simp [pgLay, List.flatMap_cons]
    | succ k =>
      have := ih k (by simpa using hk)
      simp only [List.flatMap_cons, List.set_cons_succ]
      rw [← this]
      have e : ∀ (j : Nat) (u : Value) (t : List Value), (pgLay.cells y ++ t).set ((k + 1) * 3 + j) u = pgLay.cells y ++ t.set (k * 3 + j) u := by
        intro j u t
        rw [List.set_append_right _ _ (by show 3 ≤ _; omega)]
        show pgLay.cells y ++ t.set ((k + 1) * 3 + j - 3) u = _
        rw [show (k + 1) * 3 + j - 3 = k * 3 + j by omega]
      have e0 := e 0
      simp only [Nat.add_zero] at e0
      rw [e0, e, e]
theorem apart_none (v : Value) (n c : Nat) : Apart v (.slice none n c) ∧ Apart (.slice none n c) v := ⟨fun g _ h => (by cases h), fun g h => (by cases h)⟩
/-- A page is written over another; its entries are new. -/
theorem OwnP.set {w w' : World} {base g n cap : Nat} {ps : List PgV} (h : OwnP w base (.slice (some ⟨g, 0, none⟩) n cap) ps) (k : Nat) (x : PgV) (hk : k < ps.length)
    (hw : w' = ((w.setCell ⟨g, k * 3, none⟩ (.bool x.used)).setCell ⟨g, k * 3 + 1, none⟩ (.bool x.leaf)).setCell ⟨g, k * 3 + 1 + 1, none⟩ (.slice x.a x.n x.cap))
    (hx : OwnS itLay 91 w base x.sl x.xs) (ho : Apart (.slice (some ⟨g, 0, none⟩) n cap) x.sl) (ha : ∀ i p, i ≠ k → ps[i]? = some p → Apart p.sl x.sl) : OwnP w' base (.slice (some ⟨g, 0, none⟩) n cap) (ps.set k x) := by
  have hl := ownP_len h
  subst hw
  have hG : w.grownBy _ (Value.slice (some ⟨g, 0, none⟩) n cap).ownBlock := grown_trans (grown_trans (grown_setCell (World.grownBy.refl w (some g)) g (k * 3) (.bool x.used) rfl) (grown_setCell (World.grownBy.refl _ (some g)) g (k * 3 + 1) (.bool x.leaf) rfl)) (grown_setCell (World.grownBy.refl _ (some g)) g (k * 3 + 1 + 1) (.slice x.a x.n x.cap) rfl)
  refine ⟨?_, fun p hp => ?_, fun p hp => ?_, fun i j p q hij hp hq => ?_⟩
  · have hr := h.row
    unfold OwnS at hr ⊢
    rw [List.length_set, ← flat_setP ps k x hk]
    rw [hl] at hr ⊢
    exact (((hr.stored (k * 3) _).1.stored (k * 3 + 1) _).1.stored (k * 3 + 1 + 1) _).1
  · rcases List.mem_or_eq_of_mem_set hp with h1 | rfl
    · exact (h.ent p h1).keptApart hG (h.out p h1).symm
    · exact hx.keptApart hG ho.symm
  · rcases List.mem_or_eq_of_mem_set hp with h1 | rfl
    · exact h.out p h1
    · exact ho
  · rw [List.getElem?_set] at hp hq
    split at hp
    · rename_i e
      subst e
      rw [if_neg hij] at hq
      obtain rfl := Option.some.inj hp
      exact (ha j q (Ne.symm hij) hq).symm
    · rename_i e
      split at hq
      · rename_i e2
        subst e2
        obtain rfl := Option.some.inj hq
        exact ha i p (Ne.symm e) hp
      · exact h.pair i j p q hij hp hq
/-- A page's cells in a row that is owned, and its marks. -/
theorem ownP_at {w : World} {base g n cap i : Nat} {ps : List PgV} (h : OwnP w base (.slice (some ⟨g, 0, none⟩) n cap) ps) (hi : i < n) :
    ∃ p, ps[i]? = some p ∧ w.cell? ⟨g, i * 3, none⟩ = some (.bool p.used) ∧ w.cell? ⟨g, i * 3 + 1, none⟩ = some (.bool p.leaf) ∧ w.cell? ⟨g, i * 3 + 1 + 1, none⟩ = some (.slice p.a p.n p.cap) := by
  obtain ⟨b, off, p, e, _, hp, _, d0, d1, d2⟩ := rdP_at h.rd hi
  obtain ⟨rfl, rfl⟩ : g = b ∧ 0 = off := by simpa using e
  simp only [Nat.zero_add] at d0 d1 d2
  exact ⟨p, hp, d0, d1, d2⟩
theorem OwnP.froz {w : World} {base g n cap : Nat} {ps : List PgV} (h : OwnP w base (.slice (some ⟨g, 0, none⟩) n cap) ps) (j : Nat) : w.frozen? ⟨g, j, none⟩ = false := by
  have := h.row
  unfold OwnS at this
  rw [ownP_len h] at this
  exact World.ownsRow.frozenAt this j
theorem OwnP.lt {w : World} {base g n cap : Nat} {ps : List PgV} (h : OwnP w base (.slice (some ⟨g, 0, none⟩) n cap) ps) : base ≤ g ∧ g < w.heap.size := World.ownsRow.lt h.row g rfl

/-- A book in new memory: its pages are owned. -/
def NewBook (root : Int) (out : List Pg) (w : World) (e : Ending) (w' : World) : Prop :=
  ∃ v ps, e = .returned (.agg #[.int .i64 root, v]) ∧ ps.map PgV.pg = out ∧ OwnP w' w.heap.size v ps ∧ Below w.heap.size w w'
end Go.Proofs.Ytnebhbnogmhbgaa
