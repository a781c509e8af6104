/- What the program's Reach, BookOk and SameBook are to answer (to be proved of the landed code). -/
import Derived.Test.YtnebhbnogmhbgaaBookXZSameBook
import Derived.Test.YtnebhbnogmhbgaaReach2ZSameBook
import Derived.Test.YtnebhbnogmhbgaaBookOZSameBook
import Derived.Test.YtnebhbnogmhbgaaBookFZSameBook
namespace Go.Proofs.Ytnebhbnogmhbgaa
open Go.RowKit

/-- Every number in a book is one. -/
def WfL (l : List Pg) : Prop := ∀ p ∈ l, ∀ x ∈ p.xs, (Lit.int .i64 x.id).wf = true
theorem WfL.of {ps : List PgV} (h : WfL (ps.map PgV.pg)) : ∀ p ∈ ps, ∀ x ∈ p.xs, (Lit.int .i64 x.id).wf = true := fun _ hp => h _ (List.mem_map_of_mem hp)
def RetI (L : List Int) (w : World) (e : Ending) (w' : World) : Prop := ∃ v, e = .returned v ∧ Own .i64 3 w' w.heap.size v L ∧ Below w.heap.size w w'
def RetB (b : Bool) (w : World) (e : Ending) (w' : World) : Prop := e = .returned (.bool b) ∧ Below w.heap.size w w'
def CReach (f : FuncId) : Prop := ∀ (root : Int) (a : Option Addr) (n cap : Nat) (ps : List PgV) (w : World), RdP w a n cap ps → n ≤ 1099511627776 → (∀ p ∈ ps, p.n ≤ 1099511627776) → (Lit.int .i64 root).wf = true → WfL (ps.map PgV.pg) → totG (ps.map PgV.pg) ≤ 1099511627776 →
  Calls Try.prog f #[.agg #[.int .i64 root, .slice a n cap]] w (RetI (reachV (ps.map PgV.pg) root) w)
def CBookOk (f : FuncId) : Prop := ∀ (root : Int) (a : Option Addr) (n cap : Nat) (ps : List PgV) (w : World), RdP w a n cap ps → n ≤ 1099511627776 → (∀ p ∈ ps, p.n ≤ 1099511627776) → (Lit.int .i64 root).wf = true → WfL (ps.map PgV.pg) → totG (ps.map PgV.pg) ≤ 1099511627776 →
  Calls Try.prog f #[.agg #[.int .i64 root, .slice a n cap]] w (RetB (bookOkV (ps.map PgV.pg) root) w)
def CSameBook (f : FuncId) : Prop := ∀ (r s : Int) (a b : Option Addr) (n m c1 c2 : Nat) (ps qs : List PgV) (w : World), RdP w a n c1 ps → RdP w b m c2 qs → n ≤ 1099511627776 → m ≤ 1099511627776 → (∀ p ∈ ps, p.n ≤ 1099511627776) → (∀ p ∈ qs, p.n ≤ 1099511627776) →
  Calls Try.prog f #[.agg #[.int .i64 r, .slice a n c1], .agg #[.int .i64 s, .slice b m c2]] w (RetB (sameB r s (ps.map PgV.pg) (qs.map PgV.pg)) w)
theorem sReach_c : CReach 36 := fun root a n cap ps w h hn _ hr hw _ => sReach_any root a n cap ps w h hn hr hw.of
theorem sBookOk_c : CBookOk 38 := fun root a n cap ps w h hn hp hr hw _ => sBookOk_any root a n cap ps w h hn hr hp hw.of
theorem sSameBook_c : CSameBook 26 := fun r s a b n m c1 c2 ps qs w h h' _ _ _ _ => sSameBook_any r s a b n m c1 c2 ps qs w h h'
theorem reachV_le (l : List Pg) (root : Int) : (reachV l root).length ≤ l.length := (walkV_ok l _ root [] ⟨List.nodup_nil, fun z hz => by cases hz⟩).1.len
end Go.Proofs.Ytnebhbnogmhbgaa
