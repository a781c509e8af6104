/- What the program's search functions are to answer. -/
import Derived.Test.YtfefggcfeppeiaaGreatLookMZLooks
namespace Go.Proofs.YtfefggcfeppeiaaGreat
open Go.RowKit

def RetN (k : Nat) (w : World) (e : Ending) (w' : World) : Prop := e = .returned (.int .i64 (k : Int)) ∧ Below w.heap.size w w'
def RetF (r : Bx × Bool) (w : World) (e : Ending) (w' : World) : Prop := e = .returned (.tuple #[.agg #[.int .i64 r.1.x0, .int .i64 r.1.y0, .int .i64 r.1.x1, .int .i64 r.1.y1], .bool r.2]) ∧ Below w.heap.size w w'
def CLeaves (f : FuncId) : Prop := ∀ (root : Int) (a : Option Addr) (n cap : Nat) (ps : List PgV) (w : World), RdP w a n cap ps → n ≤ 1048576 → (∀ p ∈ ps, p.n ≤ 1048576) → totG (ps.map PgV.pg) ≤ 1048576 →
  Calls Tryz.prog f #[.agg #[.int .i64 root, .slice a n cap]] w (RetI (leavesV (ps.map PgV.pg) root) w)
def CAll (f : FuncId) : Prop := ∀ (root : Int) (a : Option Addr) (n cap : Nat) (ps : List PgV) (w : World), RdP w a n cap ps → n ≤ 1048576 → (∀ p ∈ ps, p.n ≤ 1048576) → totG (ps.map PgV.pg) ≤ 1048576 →
  Calls Tryz.prog f #[.agg #[.int .i64 root, .slice a n cap]] w (NewItems (allV (ps.map PgV.pg) root) w)
def CFind (f : FuncId) : Prop := ∀ (root id : Int) (a : Option Addr) (n cap : Nat) (ps : List PgV) (w : World), RdP w a n cap ps → n ≤ 1048576 → (∀ p ∈ ps, p.n ≤ 1048576) → totG (ps.map PgV.pg) ≤ 1048576 →
  Calls Tryz.prog f #[.agg #[.int .i64 root, .slice a n cap], .int .i64 id] w (RetF (findV (ps.map PgV.pg) root id) w)
def CSearch (f : FuncId) : Prop := ∀ (root : Int) (c : Bx) (a : Option Addr) (n cap : Nat) (ps : List PgV) (w : World), RdP w a n cap ps → n ≤ 1048576 → (∀ p ∈ ps, p.n ≤ 1048576) → totG (ps.map PgV.pg) ≤ 1048576 →
  Calls Tryz.prog f #[.agg #[.int .i64 root, .slice a n cap], .agg #[.int .i64 c.x0, .int .i64 c.y0, .int .i64 c.x1, .int .i64 c.y1]] w (NewItems (searchV (ps.map PgV.pg) root c) w)
def CVisited (f : FuncId) : Prop := ∀ (root : Int) (c : Bx) (a : Option Addr) (n cap : Nat) (ps : List PgV) (w : World), RdP w a n cap ps → n ≤ 1048576 → (∀ p ∈ ps, p.n ≤ 1048576) → totG (ps.map PgV.pg) ≤ 1048576 →
  Calls Tryz.prog f #[.agg #[.int .i64 root, .slice a n cap], .agg #[.int .i64 c.x0, .int .i64 c.y0, .int .i64 c.x1, .int .i64 c.y1]] w (RetN (visitedV (ps.map PgV.pg) root c) w)
def CDeep (f : FuncId) : Prop := ∀ (root : Int) (a : Option Addr) (n cap : Nat) (ps : List PgV) (w : World), RdP w a n cap ps → n ≤ 1048576 → (∀ p ∈ ps, p.n ≤ 1048576) → totG (ps.map PgV.pg) ≤ 1048576 →
  Calls Tryz.prog f #[.agg #[.int .i64 root, .slice a n cap]] w (RetN (deepV (ps.map PgV.pg) 12 root) w)
theorem sLeaves_c : CLeaves 19 := fun root a n cap ps w h hn _ _ => sLeaves_any root a n cap ps w h (by omega)
theorem sAll_c : CAll 16 := fun root a n cap ps w h hn hp _ => sAll_any root a n cap ps w h hn hp
theorem sFind_c : CFind 9 := fun root id a n cap ps w h hn hp _ => sFind_any root id a n cap ps w h hn hp

theorem searchV_len (l : List Pg) (root : Int) (c : Bx) : (searchV l root c).length ≤ 22369620 := by
  unfold searchV
  split
  · rename_i h
    have := hits_len c (ok_len h) 12 root
    rw [visN12] at this
    exact this
  · exact Nat.zero_le _
theorem sum_at (f : Pg → Nat) (l : List Pg) : (List.range l.length).map (fun k : Nat => f (pageAt l (k : Int))) = l.map f := by
  apply List.ext_getElem
  · simp
  · intro k h1 h2
    simp only [List.getElem_map, List.getElem_range]
    have h3 : k < l.length := by simpa using h1
    unfold pageAt
    rw [if_pos (by omega), Int.toNat_natCast, List.getElem?_eq_getElem h3]
    rfl
theorem sum_nodup2 : ∀ (n : Nat) (f : Int → Nat) (zs : List Int), zs.Nodup → (∀ z ∈ zs, 0 ≤ z ∧ z < (n : Int)) → (zs.map f).sum ≤ ((List.range n).map (fun k : Nat => f (k : Int))).sum
  | 0, f, [], _, _ => Nat.le_refl _
  | 0, f, z :: zs, _, h => by have := h z List.mem_cons_self; omega
  | n + 1, f, zs, h, hz => by
    have h1 := sum_nodup2 n f (zs.erase (n : Int)) (h.erase _) (fun z hm => by
      have h2 := hz z (List.mem_of_mem_erase hm)
      have h3 : z ≠ (n : Int) := fun e => by
        subst e
        exact absurd hm (List.Nodup.not_mem_erase h)
      omega)
    rw [List.range_succ, List.map_append, List.sum_append]
    by_cases hm : (n : Int) ∈ zs
    · have h2 := ((List.perm_cons_erase hm).map f).sum_nat
      rw [h2, List.map_cons, List.sum_cons]
      simp only [List.map_cons, List.map_nil, List.sum_cons, List.sum_nil]
      omega
    · rw [List.erase_of_not_mem hm] at h1
      simp only [List.map_cons, List.map_nil, List.sum_cons, List.sum_nil]
      omega
theorem allV_tot (l : List Pg) (root : Int) : (allV l root).length ≤ totG l := by
  have h1 := sum_nodup2 l.length (fun i => (pageAt l i).xs.length) (leavesV l root) ((reachV_ok l root).1.filter _) (fun z hz => (reachV_ok l root).2 z (List.mem_filter.1 hz).1)
  rw [sum_at (fun p => p.xs.length) l] at h1
  have h2 : ∀ r : List Int, (r.flatMap (fun i => (pageAt l i).xs)).length = (r.map (fun i => (pageAt l i).xs.length)).sum := by
    intro r
    rw [List.length_flatMap]
  unfold allV
  rw [h2]
  exact h1
end Go.Proofs.YtfefggcfeppeiaaGreat
