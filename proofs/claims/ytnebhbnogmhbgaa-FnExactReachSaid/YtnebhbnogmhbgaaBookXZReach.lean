/- What the program's functions on books are to answer (to be proved of the landed code). -/
import Derived.Test.YtnebhbnogmhbgaaBookAZReach
import Derived.Test.YtnebhbnogmhbgaaBookMZReach
import Derived.Test.YtnebhbnogmhbgaaIntSZReach
namespace Go.Proofs.Ytnebhbnogmhbgaa
open Go.RowKit

def CBookNew (f : FuncId) : Prop := ∀ w : World, Calls Try.prog f #[] w (NewBook 0 [⟨true, true, []⟩] w)
def CNodeAt (f : FuncId) : Prop := ∀ (root i : Int) (a : Option Addr) (n cap : Nat) (ps : List PgV) (w : World), RdP w a n cap ps → (Lit.int .i64 i).wf = true → (∀ p ∈ ps, p.n ≤ 1099511627776) →
  Calls Try.prog f #[.agg #[.int .i64 root, .slice a n cap], .int .i64 i] w (NewNode (pageAt (ps.map PgV.pg) i).leaf (pageAt (ps.map PgV.pg) i).xs w)
def CPut (f : FuncId) : Prop := ∀ (root i : Int) (a : Option Addr) (n cap : Nat) (ps : List PgV) (b : Bool) (a' : Option Addr) (n' cap' : Nat) (xs : List It) (w : World), RdP w a n cap ps → RdS itLay w a' n' cap' xs → (Lit.int .i64 i).wf = true → n ≤ 1099511627776 → n' ≤ 1099511627776 → (∀ p ∈ ps, p.n ≤ 1099511627776) →
  Calls Try.prog f #[.agg #[.int .i64 root, .slice a n cap], .int .i64 i, .agg #[.bool b, .slice a' n' cap']] w (NewBook root (putV (ps.map PgV.pg) i ⟨true, b, xs⟩) w)
def CAlloc (f : FuncId) : Prop := ∀ (root : Int) (a : Option Addr) (n cap : Nat) (ps : List PgV) (w : World), RdP w a n cap ps → n ≤ 1099511627776 → (∀ p ∈ ps, p.n ≤ 1099511627776) →
  Calls Try.prog f #[.agg #[.int .i64 root, .slice a n cap]] w (NewBookI root (allocV (ps.map PgV.pg)) w)
def CFree (f : FuncId) : Prop := ∀ (root : Int) (a : Option Addr) (n cap : Nat) (ps : List PgV) (al : Option Addr) (nl cl : Nat) (ids : List Int) (w : World), RdP w a n cap ps → RdI .i64 w al nl cl ids → n ≤ 1099511627776 → (∀ p ∈ ps, p.n ≤ 1099511627776) →
  Calls Try.prog f #[.agg #[.int .i64 root, .slice a n cap], .slice al nl cl] w (NewBook root (freeV (ps.map PgV.pg) ids) w)

/-- A new book lies in the block g, and its pages elsewhere. -/
def PutIn (w : World) (root : Int) (L : List Pg) (g : Nat) (V : World) : Prop := ∃ lo hi a q c, Below w.heap.size w V ∧ q.map PgV.pg = L ∧ OwnP V lo (.slice a q.length c) q ∧ Frame lo hi (fun V => OwnP V lo (.slice a q.length c) q) ∧ w.heap.size ≤ lo ∧ hi ≤ V.heap.size ∧ w.heap.size ≤ g ∧ g < V.heap.size ∧ (g < lo ∨ hi ≤ g) ∧ ∀ o, V.cell? ⟨g, o, none⟩ = (#[.int .i64 root, .slice a q.length c] : Array Value)[o]?
theorem putIn_new {w wc : World} {root : Int} {L : List Pg} {lo c : Nat} {a : Option Addr} {q : List PgV} (B : Below w.heap.size w wc) (e : q.map PgV.pg = L) (o : OwnP wc lo (.slice a q.length c) q) (hl : w.heap.size ≤ lo) :
    PutIn w root L wc.heap.size (wc.alloc (.cells #[.int .i64 root, .slice a q.length c] 26)) :=
  ⟨lo, wc.heap.size, a, q, c, B.alloc B.size _, e, o.below (new_below _ _), o.frame, hl, by simp, B.size, by simp, .inr (Nat.le_refl _), (blk_new wc _ _).1⟩
theorem putIn_old {w wc : World} {root : Int} {L : List Pg} {g lo c : Nat} {a : Option Addr} {q : List PgV} {u0 u1 : Value} (B : Below w.heap.size w wc) (e : q.map PgV.pg = L) (o : OwnP wc lo (.slice a q.length c) q) (hg : w.heap.size ≤ g) (hl : g < lo) (hs : g < wc.heap.size) (K : (∀ o, wc.cell? ⟨g, o, none⟩ = (#[u0, u1] : Array Value)[o]?) ∧ ∀ o, wc.frozen? ⟨g, o, none⟩ = false) :
    PutIn w root L g ((wc.setCell ⟨g, 0, none⟩ (.int .i64 root)).setCell ⟨g, 1, none⟩ (.slice a q.length c)) := by
  have KL : Loc wc g #[u0, u1] := ⟨hs, K.1, K.2⟩
  have K2 := (KL.set 0 (.int .i64 root) (by simp)).set 1 (.slice a q.length c) (by simp)
  simp at K2
  refine ⟨lo, wc.heap.size, a, q, c, (B.setCell (p := ⟨g, 0, none⟩) hg _).setCell (p := ⟨g, 1, none⟩) hg _, e, ?_, o.frame, by omega, by simp, hg, by simpa using hs, .inl hl, K2.2.1⟩
  refine o.frame _ _ (fun j h3 h4 => ?_) o
  rw [Below.heap_setCell _ _ _ _ (by intro e; simp at e; omega), Below.heap_setCell _ _ _ _ (by intro e; simp at e; omega)]

/-- How many entries the pages have. -/
def totG (l : List Pg) : Nat := (l.map (fun p => p.xs.length)).sum
theorem totP_pg {w : World} {base : Nat} {v : Value} {ps : List PgV} (h : OwnP w base v ps) : totP ps = totG (ps.map PgV.pg) := by
  unfold totP totG
  rw [List.map_map]
  congr 1
  refine List.map_congr_left fun p hp => ?_
  have := ownS_len (h.ent p hp)
  exact this.symm
theorem endP_pg {w : World} {base : Nat} {v : Value} {ps : List PgV} {out : List Pg} (h : OwnP w base v ps) (e : ps.map PgV.pg = out) (hb : 2 * out.length + 5 * totG out ≤ 900000000) : endP 1 ps ≤ 1000000000 := by
  subst e
  rw [endP_eq, totP_pg h]
  rw [List.length_map] at hb
  omega
theorem le_sum_mem : ∀ (l : List Nat) (x : Nat), x ∈ l → x ≤ l.sum
  | [], x, h => absurd h (by simp)
  | y :: l, x, h => by
    rw [List.sum_cons]
    rcases List.mem_cons.1 h with rfl | h
    · omega
    · have := le_sum_mem l x h
      omega
/-- No page has more entries than all of them. -/
theorem pgs_le {w : World} {base : Nat} {v : Value} {ps : List PgV} {out : List Pg} (h : OwnP w base v ps) (e : ps.map PgV.pg = out) {B : Nat} (hb : totG out ≤ B) : ∀ p ∈ ps, p.n ≤ B := by
  intro p hp
  subst e
  rw [← totP_pg h] at hb
  exact Nat.le_trans (le_sum_mem _ _ (List.mem_map_of_mem hp)) hb
theorem totP_rd {w : World} {a : Option Addr} {n cap : Nat} {ps : List PgV} (h : RdP w a n cap ps) : totP ps = totG (ps.map PgV.pg) := by
  unfold totP totG
  rw [List.map_map]
  congr 1
  refine List.map_congr_left fun p hp => ?_
  exact (h.2 p hp).1.1.symm
theorem pgs_rd {w : World} {a : Option Addr} {n cap : Nat} {ps : List PgV} {out : List Pg} (h : RdP w a n cap ps) (e : ps.map PgV.pg = out) {B : Nat} (hb : totG out ≤ B) : ∀ p ∈ ps, p.n ≤ B := by
  intro p hp
  subst e
  rw [← totP_rd h] at hb
  exact Nat.le_trans (le_sum_mem _ _ (List.mem_map_of_mem hp)) hb
theorem mem_totG {l : List Pg} {p : Pg} (h : p ∈ l) {B : Nat} (hb : totG l ≤ B) : p.xs.length ≤ B := by
  have h1 : p.xs.length ∈ l.map (fun p => p.xs.length) := List.mem_map.2 ⟨p, h, rfl⟩
  exact Nat.le_trans (le_sum_mem _ _ h1) hb
theorem pageAt_le {l : List Pg} (i : Int) {B : Nat} (hb : totG l ≤ B) : (pageAt l i).xs.length ≤ B := by
  unfold pageAt
  split
  · cases e : l[i.toNat]? with
    | none => exact Nat.zero_le _
    | some p => exact mem_totG (List.mem_of_getElem? e) hb
  · exact Nat.zero_le _
theorem sum_set : ∀ (l : List Nat) (k x : Nat), (l.set k x).sum ≤ l.sum + x
  | [], k, x => by simp
  | y :: l, 0, x => by simp; omega
  | y :: l, k + 1, x => by
    have := sum_set l k x
    simp
    omega
theorem totG_set (l : List Pg) (k : Nat) (p : Pg) : totG (l.set k p) ≤ totG l + p.xs.length := by
  unfold totG
  rw [List.map_set]
  exact sum_set _ _ _
theorem putV_le (l : List Pg) (i : Int) (p : Pg) : (putV l i p).length = l.length ∧ totG (putV l i p) ≤ totG l + p.xs.length := by
  unfold putV
  split
  · exact ⟨List.length_set, totG_set _ _ _⟩
  · exact ⟨rfl, Nat.le_add_right _ _⟩
theorem freeV_le : ∀ (ids : List Int) (l : List Pg), (freeV l ids).length = l.length ∧ totG (freeV l ids) ≤ totG l
  | [], l => ⟨rfl, Nat.le_refl _⟩
  | i :: ids, l => by
    obtain ⟨h1, h2⟩ := freeV_le ids (putV l i zeroPg)
    obtain ⟨h3, h4⟩ := putV_le l i zeroPg
    have h5 : zeroPg.xs.length = 0 := rfl
    exact ⟨h1.trans h3, Nat.le_trans h2 (by omega)⟩
theorem totG_app (l : List Pg) (p : Pg) : totG (l ++ [p]) = totG l + p.xs.length := by
  unfold totG
  simp
theorem allocV_le (l : List Pg) : (allocV l).1.length ≤ l.length + 1 ∧ totG (allocV l).1 ≤ totG l := by
  unfold allocV
  have h5 : leafPg.xs.length = 0 := rfl
  split
  · rename_i i _
    have := totG_set l i leafPg
    refine ⟨?_, Nat.le_trans this (by omega)⟩
    rw [List.length_set]; omega
  · split
    · exact ⟨Nat.le_add_right _ _, Nat.le_refl _⟩
    · refine ⟨?_, ?_⟩
      · show (l ++ [leafPg]).length ≤ _
        simp
      · show totG (l ++ [leafPg]) ≤ _
        rw [totG_app, h5]
        omega
theorem st2 {b g : Nat} {w V : World} {x y : Value} (B : Below b w V) (h : b ≤ g) : Below b w ((V.setCell ⟨g, 0, none⟩ x).setCell ⟨g, 1, none⟩ y) :=
  (B.setCell (p := ⟨g, 0, none⟩) h x).setCell (p := ⟨g, 1, none⟩) h y
theorem rdI_own {k : IntKind} {e : TypeId} {w : World} {base c : Nat} {a : Option Addr} {zs : List Int} (h : Own k e w base (.slice a zs.length c) zs) : RdI k w a zs.length c zs := by
  obtain ⟨a', c', e, r⟩ := h.rd
  cases e
  exact r
theorem len_pgs {ps : List PgV} {out : List Pg} (e : ps.map PgV.pg = out) : ps.length = out.length := by rw [← e, List.length_map]
end Go.Proofs.Ytnebhbnogmhbgaa
