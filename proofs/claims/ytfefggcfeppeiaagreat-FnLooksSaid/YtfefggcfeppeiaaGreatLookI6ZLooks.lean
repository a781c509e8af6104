/- The program's visitedFrom: an iterator over the pages that a search looks at; it loops over itself. -/
import Derived.Test.YtfefggcfeppeiaaGreatKpBZLooks
import Derived.Test.YtfefggcfeppeiaaGreatLookYZLooks
import Derived.Test.YtfefggcfeppeiaaGreatQLooksf
import Derived.Test.YtfefggcfeppeiaaGreatBookI1ZLooks
import Derived.RangeFuncLeaves
namespace Go.Proofs.YtfefggcfeppeiaaGreat
open Go.RowKit Go.Shelf
attribute [local go_sem] Oper.semAt_some

/-- The used page of a number. -/
def pgAt (ps : List PgV) (i : Int) : Option {p : PgV // p ∈ ps} :=
  if 0 ≤ i then (match h : ps[i.toNat]? with | some p => if p.used then some ⟨p, List.mem_of_getElem? h⟩ else none | none => none) else none
/-- The pages that a search looks at, as the program passes them on. -/
def visS (ps : List PgV) (c : Bx) : Nat → Int → List {p : PgV // p ∈ ps}
  | 0, _ => []
  | f + 1, i => match pgAt ps i with | none => [] | some p => p :: ((kidsP p.1.pg).filter (meetsIt c)).flatMap (fun x => visS ps c f x.id)
theorem pgAt_yes {ps : List PgV} {m : Nat} {p : PgV} (h : ps[m]? = some p) (hu : p.used = true) : pgAt ps (m : Int) = some ⟨p, List.mem_of_getElem? h⟩ := by
  unfold pgAt
  rw [if_pos (by omega)]
  simp only [Int.toNat_natCast]
  split
  · rename_i q hq
    rw [h] at hq
    cases hq
    rw [if_pos hu]
  · rename_i hq
    rw [h] at hq
    cases hq
theorem pgAt_map (ps : List PgV) (i : Int) : (pgAt ps i).map (fun p => p.1.pg) = if (pageAt (ps.map PgV.pg) i).used then some (pageAt (ps.map PgV.pg) i) else none := by
  by_cases h0 : 0 ≤ i
  · obtain ⟨m, rfl⟩ := Int.eq_ofNat_of_zero_le h0
    cases hp : ps[m]? with
    | none =>
      have e : pageAt (ps.map PgV.pg) (m : Int) = zeroPg := by
        unfold pageAt
        rw [if_pos h0, Int.toNat_natCast, List.getElem?_map, hp]
        rfl
      rw [e]
      unfold pgAt
      rw [if_pos h0]
      simp only [Int.toNat_natCast]
      split
      · rename_i q hq
        rw [hp] at hq
        cases hq
      · rfl
    | some p =>
      rw [pageAt_yes hp]
      cases hu : p.used with
      | true =>
        rw [pgAt_yes hp hu, if_pos (show p.pg.used = true from hu)]
        rfl
      | false =>
        rw [if_neg (by rw [show p.pg.used = p.used from rfl, hu]; exact Bool.false_ne_true)]
        unfold pgAt
        rw [if_pos h0]
        simp only [Int.toNat_natCast]
        split
        · rename_i q hq
          rw [hp] at hq
          cases hq
          rw [if_neg (by rw [hu]; exact Bool.false_ne_true)]
          rfl
        · rfl
  · have e : pageAt (ps.map PgV.pg) i = zeroPg := by
      unfold pageAt
      rw [if_neg h0]
    rw [e]
    unfold pgAt
    rw [if_neg h0]
    rfl
theorem visS_map (ps : List PgV) (c : Bx) : ∀ (f : Nat) (i : Int), (visS ps c f i).map (fun p => p.1.pg) = visV (ps.map PgV.pg) c f i
  | 0, _ => rfl
  | f + 1, i => by
    have h := pgAt_map ps i
    cases hp : pgAt ps i with
    | none =>
      rw [hp] at h
      have hu : ¬ (pageAt (ps.map PgV.pg) i).used = true := fun hu => by
        rw [if_pos hu] at h
        cases h
      rw [visV, if_neg hu, visS, hp]
      rfl
    | some p =>
      rw [hp] at h
      by_cases hu : (pageAt (ps.map PgV.pg) i).used = true
      · rw [if_pos hu] at h
        have e : p.1.pg = pageAt (ps.map PgV.pg) i := by simpa using h
        rw [visV, if_pos hu, visS, hp]
        show List.map _ (p :: _) = _
        rw [List.map_cons, List.map_flatMap, e]
        congr 1
        congr 1
        funext x
        exact visS_map ps c f x.id
      · rw [if_neg hu] at h
        cases h
theorem visS_succ {ps : List PgV} {c : Bx} {f m : Nat} {p : PgV} (h : ps[m]? = some p) (hu : p.used = true) : visS ps c (f + 1) (m : Int) = ⟨p, List.mem_of_getElem? h⟩ :: ((kidsP p.pg).filter (meetsIt c)).flatMap (fun x => visS ps c f x.id) := by
  rw [visS, pgAt_yes h hu]
def ndEnc {ps : List PgV} (p : {p : PgV // p ∈ ps}) : Array Value := #[.agg #[.bool p.1.leaf, .slice p.1.a p.1.n p.1.cap]]
theorem reach_kid {l : List Pg} {root i : Int} (h : bookOkV l root = true) (hi : i ∈ reachV l root) {x : It} (hx : x ∈ kidsP (pageAt l i)) : x.id ∈ reachV l root := by
  have hk := h
  unfold bookOkV at hk
  simp only [Bool.and_eq_true] at hk
  obtain ⟨-, -, -, h2, -⟩ := hk
  exact (kidsOk_iff.1 h2 x.id (mem_allKids.2 ⟨i, hi, by unfold kidIds; exact List.mem_map_of_mem hx⟩)).1
theorem reach_root {l : List Pg} {root : Int} (h : bookOkV l root = true) : root ∈ reachV l root := by
  have h1 := h
  rw [bookOk_refs] at h1
  simp only [Bool.and_eq_true] at h1
  exact (reach_grew l root).2 h1.2.1

/-- visitedFrom makes the iterator: four boxes. -/
theorem iVisitedFrom_any (root i d : Int) (c : Bx) (a : Option Addr) (n cap : Nat) (w : World) : Calls Tryz.prog 59 #[.agg #[.int .i64 root, .slice a n cap], .int .i64 i, .agg #[.int .i64 c.x0, .int .i64 c.y0, .int .i64 c.x1, .int .i64 c.y1], .int .i64 d] w fun e w' =>
    e = .returned (.func (.func 81) #[] #[.pointer (some ⟨w.heap.size, 0, none⟩), .pointer (some ⟨w.heap.size + 1, 0, none⟩), .pointer (some ⟨w.heap.size + 1 + 1 + 1, 0, none⟩), .pointer (some ⟨w.heap.size + 1 + 1, 0, none⟩)]) ∧
    w' = (((w.alloc (.cells #[.int .i64 root, .slice a n cap] 26)).alloc (.cells #[.int .i64 i] 3)).alloc (.cells #[.int .i64 c.x0, .int .i64 c.y0, .int .i64 c.x1, .int .i64 c.y1] 28)).alloc (.cells #[.int .i64 d] 3) := by
  go_enter Tryz.func59, Tryz.ntmps59
  go_wp2
  go_ret
  exact ⟨rfl, rfl⟩

/-- What the iterator holds between two rounds. -/
structure VisS (w0 : World) (B q1 q2 q3 q4 qy q6 : Nat) (root i d : Int) (c : Bx) (a : Option Addr) (n cap l : Nat) (lf : Bool) (s : Value) (base : Nat) (Ds : List Nat) (W : World) : Prop where
  b1 : HeldB B W q1 #[.int .i64 root, .slice a n cap] 26
  b2 : HeldB B W q2 #[.int .i64 i] 3
  b3 : HeldB B W q3 #[.int .i64 d] 3
  b4 : HeldB B W q4 #[.int .i64 c.x0, .int .i64 c.y0, .int .i64 c.x1, .int .i64 c.y1] 28
  by_ : HeldB B W qy #[.func (.yield l) #[] #[]] 90
  b6 : HeldB B W q6 #[.bool lf, s] 59
  below : Below w0.heap.size w0 W
  bd : Bd B W
  lt : B < W.heap.size
  mks : Marks base W Ds
  sz : base ≤ W.heap.size
end Go.Proofs.YtfefggcfeppeiaaGreat
