/- Texts of this seat laid together: Base, Row, In, MinMax, Box. -/
import Derived.Test.YtnebhbnogmhbgaaChecked
import Derived.WalkKit
import Derived.ProofKit
import Derived.OpenShut
import Derived.RegionTactic
import Derived.Deep.QuietTactic
import Derived.BigQuiet
import Derived.WalkLawsBesides
import Derived.WalkSpells
import Derived.Lib.Hide
import Derived.Laws.AppendOwnNone
import Derived.Deep.RegionHeld3

/- Slices of one-cell integers: what is read and what is owned; lists told by their places; append. -/
namespace Go.Proofs.Ytnebhbnogmhbgaa
open Go.RowKit

/-- A slice value that reads as the numbers zs. -/
def RdI (k : IntKind) (w : World) (a : Option Addr) (n cap : Nat) (zs : List Int) : Prop :=
  (zs.length = n ∧ n ≤ cap ∧ cap ≤ maxLen ∧ (a = none → n = 0 ∧ cap = 0)) ∧ (0 < n → ∃ b off, a = some ⟨b, off, none⟩ ∧ ∀ i, i < n → w.cell? ⟨b, off + i, none⟩ = some (.int k (zs.getD i 0)))

def Own (k : IntKind) (e : TypeId) (w : World) (base : Nat) (v : Value) (zs : List Int) : Prop :=
  w.ownsRow base e 1 v zs.length (zs.map (Value.int k))

theorem Own.rd {k : IntKind} {e : TypeId} {w : World} {base : Nat} {v : Value} {zs : List Int} (h : Own k e w base v zs) :
    ∃ a cap, v = .slice a zs.length cap ∧ RdI k w a zs.length cap zs := by
  rcases h.2 with ⟨rfl, hn⟩ | ⟨g, cap, cur, rfl, hb, hh, r⟩
  · exact ⟨none, 0, by rw [hn], ⟨rfl, by omega, by simp [maxLen], fun _ => ⟨hn, rfl⟩⟩, fun h => by omega⟩
  · refine ⟨_, cap, rfl, ⟨rfl, r.1, r.2.1, fun h => by cases h⟩, fun _ => ⟨g, 0, rfl, fun i hi => ?_⟩⟩
    have := World.ownsRow.cellAt h i (by omega)
    rw [Nat.zero_add, this]
    simp [hi]

theorem RdI.below {k : IntKind} {w w' : World} {a : Option Addr} {n cap : Nat} {zs : List Int} (h : RdI k w a n cap zs) (hB : Below w.heap.size w w') : RdI k w' a n cap zs := by
  refine ⟨h.1, fun hn => ?_⟩
  obtain ⟨b, off, e, hc⟩ := h.2 hn
  refine ⟨b, off, e, fun i hi => ?_⟩
  have hlt : b < w.heap.size := World.block_lt_of_cell? w ⟨b, off + i, none⟩ (hc i hi)
  rw [hB.cell (p := ⟨b, off + i, none⟩) hlt]
  exact hc i hi

theorem Own.kept {k : IntKind} {e : TypeId} {w w' : World} {base : Nat} {v : Value} {zs : List Int} {row : Option Nat} (h : Own k e w base v zs) (hg : w.grownBy w' row)
    (hne : v.ownBlock = none ∨ v.ownBlock ≠ row) : Own k e w' base v zs := World.ownsRow.kept h hg hne

theorem Below.toGrown {w w' : World} (h : Below w.heap.size w w') (row : Option Nat) : w.grownBy w' row :=
  ⟨h.os, h.tape, h.output, h.size, fun k hk _ => h.block k hk⟩

theorem Own.below {k : IntKind} {e : TypeId} {w w' : World} {base : Nat} {v : Value} {zs : List Int} (h : Own k e w base v zs) (hB : Below w.heap.size w w') : Own k e w' base v zs :=
  Own.kept h (Below.toGrown hB none) (by cases v.ownBlock <;> simp)

theorem grownNone_below {w w' : World} (h : w.grownBy w' none) : Below w.heap.size w w' := ⟨h.os, h.tape, h.output, h.size, fun k hk => h.block k hk (by simp)⟩

/-! ### lists told by their places -/
def gen {α : Type} (n : Nat) (f : Nat → α) : List α := (List.range n).map f
theorem gen_length {α : Type} (n : Nat) (f : Nat → α) : (gen n f).length = n := by simp [gen]
theorem gen_at {α : Type} (n : Nat) (f : Nat → α) (k : Nat) (h : k < n) : (gen n f)[k]? = some (f k) := by simp [gen, h]
theorem gen_getD {α : Type} (n : Nat) (f : Nat → α) (d : α) (k : Nat) (h : k < n) : (gen n f).getD k d = f k := by simp [gen, List.getD, h]
theorem gen_congr {α : Type} (n : Nat) (f g : Nat → α) (h : ∀ j, j < n → f j = g j) : gen n f = gen n g := by
  unfold gen
  exact List.map_congr_left fun j hj => h j (List.mem_range.1 hj)
theorem gen_set {α : Type} (n : Nat) (f : Nat → α) (k : Nat) (x : α) : (gen n f).set k x = gen n (fun j => if j = k then x else f j) := by
  apply List.ext_getElem?
  intro j
  rw [List.getElem?_set]
  by_cases hj : j < n
  · rw [gen_at n _ j hj, gen_at n _ j hj, gen_length]
    by_cases h : k = j
    · subst h; simp [hj]
    · rw [if_neg h, if_neg (fun e => h e.symm)]
  · have h1 : (gen n f)[j]? = none := by simp [gen]; omega
    have h2 : (gen n (fun j => if j = k then x else f j))[j]? = none := by simp [gen]; omega
    rw [h1, h2, gen_length]
    by_cases h : k = j
    · subst h; simp [hj]
    · rw [if_neg h]
theorem gen_list {α : Type} (zs : List α) (d : α) (n : Nat) (h : zs.length = n) : gen n (fun j => zs.getD j d) = zs := by
  subst h
  apply List.ext_getElem?
  intro j
  by_cases hj : j < zs.length
  · rw [gen_at _ _ j hj]; simp [List.getD, hj]
  · have h1 : (gen zs.length (fun j => zs.getD j d))[j]? = none := by simp [gen]; omega
    rw [h1]; simp; omega

/-- The first k of zs, then zeros, n in all. -/
def copied (zs : List Int) (n k : Nat) : List Int := gen n fun j => if j < k then zs.getD j 0 else 0
theorem copied_at (zs : List Int) (n k : Nat) (hk : k < n) : (copied zs n k)[k]? = some 0 := by
  unfold copied
  rw [gen_at n _ k hk]; simp
theorem copied_set (zs : List Int) (n k : Nat) : copied zs n (k + 1) = (copied zs n k).set k (zs.getD k 0) := by
  unfold copied
  rw [gen_set]
  refine gen_congr n _ _ fun j _ => ?_
  by_cases h : j = k
  · subst h; simp
  · rw [if_neg h]
    by_cases h' : j < k
    · rw [if_pos h', if_pos (by omega)]
    · rw [if_neg h', if_neg (by omega)]
theorem copied_start (zs : List Int) (n : Nat) : copied zs n 0 = List.replicate n 0 := by
  unfold copied gen
  simp [List.map_const']
theorem copied_end (zs : List Int) (n : Nat) (h : zs.length = n) : copied zs n n = zs := by
  rw [← gen_list zs 0 n h]
  unfold copied
  refine gen_congr n _ _ fun j hj => ?_
  rw [if_pos hj, gen_list zs 0 n h]

theorem Own.mono {k : IntKind} {e : TypeId} {w : World} {base base' : Nat} {v : Value} {zs : List Int} (h : Own k e w base' v zs) (hb : base ≤ base') : Own k e w base v zs := by
  refine ⟨h.1, ?_⟩
  rcases h.2 with h2 | ⟨g, cap, cur, hv, hg, r⟩
  · exact .inl h2
  · exact .inr ⟨g, cap, cur, hv, by omega, r⟩

/-- A literal slice that has just been laid. -/
theorem rdI_new (w : World) (k : IntKind) (xs : List Int) (cs : Array Value) (e : TypeId) (n : Nat) (hn : xs.length = n) (hc : cs.toList = xs.map (Value.int k)) (hm : n ≤ maxLen) :
    RdI k (w.alloc (.cells cs e)) (some ⟨w.heap.size, 0, none⟩) n n xs := by
  refine ⟨⟨hn, Nat.le_refl _, hm, fun h => by cases h⟩, fun _ => ⟨_, 0, rfl, fun i hi => ?_⟩⟩
  have h := World.ownsRow_lit (base := 0) (size := 1) (e := e) w cs n (Nat.zero_le _) hm (by rw [← Array.length_toList, hc, List.length_map, hn, Nat.mul_one])
  have := World.ownsRow.cellAt h i (by omega)
  rw [Nat.zero_add, this, hc]
  simp [hn, hi]

theorem rdI_nil (w : World) (k : IntKind) : RdI k w none 0 0 [] := ⟨⟨rfl, Nat.le_refl _, by simp [maxLen], fun _ => ⟨rfl, rfl⟩⟩, fun h => by omega⟩

/-- 'append(out, xs...)', out the call's own, xs whatever: nil, empty or not. -/
theorem append_src {P : Program} {w : World} {ops : Array Oper} {rest : List Oper} {o : Oper} {a : Act} {Q : Exit → Act → World → Prop} (hgd : o.guard = none) (s x : Operand) (t : TypeId)
    (ho : o.op = .call { callee := .builtin .append, args := #[s, x], argTypes := #[t, t] })
    (base : Nat) (e : TypeId) (i : TypeInfo) (z : Value) (size bytes : Nat) (ht : P.underlying t = some (.slice e)) (hi : P.info? e = some i) (hz : i.zero = some z)
    (hsize : i.size = size) (hby : i.bytes = bytes) (hzs : z.cells.size = size) (hsz : 0 < size)
    (v : Value) (n : Nat) (xs : List Value) (hs : a.eval s = v) (hown : w.ownsRow base e size v n xs)
    (ad : Option Addr) (m c : Nat) (news : List Value) (hx : a.eval x = .slice ad m c) (hl : news.length = m * size) (hnil : ad = none → m = 0 ∧ c = 0)
    (hnews : ∀ p, ad = some p → ∀ j u, news[j]? = some u → w.cell? (p.add j) = some u) (h1 : ∀ u ∈ news, u.oneCell' = true)
    (h63 : n + m ≤ maxLen) (hbytes : (n + m) * bytes ≤ 140737488355328) (hbase : base ≤ w.heap.size)
    (h : ∀ v' w', w'.ownsRow base e size v' (n + m) (xs ++ news) → w.grownBy w' v.ownBlock → wpList P ops Q rest (a.put o.dst v') w') : wpList P ops Q (o :: rest) a w := by
  cases ad with
  | some p => exact wpList_append_own w hgd s x t ho base e i z size bytes ht hi hz hsize hby hzs hsz v n xs hs hown p m c news hx hl (hnews p rfl) h1 h63 hbytes hbase fun v' w' a b _ => h v' w' a b
  | none =>
    obtain ⟨rfl, rfl⟩ := hnil rfl
    have hn : news = [] := List.eq_nil_of_length_eq_zero (by simpa using hl)
    subst hn
    exact wpList_append_own_none hgd s x t ho base e i size ht hi v n xs hs hown hx (h v w (by simpa using hown) (World.grownBy.refl _ _))

theorem rdI_owns {k : IntKind} {e : TypeId} {w : World} {base : Nat} {a : Option Addr} {n cap : Nat} {zs : List Int} (h : w.ownsRow base e 1 (.slice a n cap) n (zs.map (Value.int k))) (hz : zs.length = n) : RdI k w a n cap zs := by
  subst hz
  obtain ⟨a', cap', hv, hr⟩ := Own.rd (k := k) (e := e) h
  simp only [Value.slice.injEq, true_and] at hv
  obtain ⟨rfl, rfl⟩ := hv
  exact hr

theorem RdI.news {k : IntKind} {w : World} {a : Option Addr} {n cap : Nat} {zs : List Int} (h : RdI k w a n cap zs) :
    ∀ ad, a = some ad → ∀ j u, (zs.map (Value.int k))[j]? = some u → w.cell? (ad.add j) = some u := by
  intro ad had j u hu
  have hj : j < n := by have := (List.getElem?_eq_some_iff.1 hu).1; simpa [h.1.1] using this
  obtain ⟨b, off, e, hc⟩ := h.2 (by omega)
  rw [e] at had
  obtain rfl := Option.some.inj had
  rw [Addr.add_lit, hc j hj]
  rw [← hu, List.getElem?_map]
  have : zs[j]? = some (zs.getD j 0) := by simp [List.getD, h.1.1, hj]
  rw [this]; rfl

/-- Two slices that lie in different blocks. -/
def Apart (v v' : Value) : Prop := ∀ g, v.ownBlock = some g → v'.ownBlock ≠ some g
theorem Apart.symm {v v' : Value} (h : Apart v v') : Apart v' v := fun g h1 h2 => h g h2 h1
theorem Own.keptApart {k : IntKind} {e : TypeId} {w w' : World} {base : Nat} {v v' : Value} {zs : List Int} (h : Own k e w base v zs) (hg : w.grownBy w' v'.ownBlock) (ha : Apart v v') : Own k e w' base v zs := by
  refine Own.kept h hg ?_
  cases hv : v.ownBlock with
  | none => exact .inl rfl
  | some g => exact .inr fun e => ha g hv e.symm
/-- What was owned before and what was made later lie apart. -/
theorem own_apart {k k' : IntKind} {e e' : TypeId} {w w' : World} {base base' : Nat} {v v' : Value} {zs zs' : List Int} (h : Own k e w base v zs) (h' : Own k' e' w' base' v' zs') (hb : w.heap.size ≤ base') : Apart v v' := by
  intro g hv hv'
  have h1 := h.lt g hv
  have h2 := h'.lt g hv'
  omega

theorem owns_shape {w : World} {base : Nat} {e : TypeId} {size : Nat} {v : Value} {n : Nat} {xs : List Value} (h : w.ownsRow base e size v n xs) : ∃ a c, v = .slice a n c := by
  rcases h.2 with ⟨rfl, rfl⟩ | ⟨g, cap, _, rfl, _⟩
  · exact ⟨_, _, rfl⟩
  · exact ⟨_, _, rfl⟩
def lenOf : Value → Int | .slice _ n _ => n | _ => 0

/-- What the frame tells of a slice that came in. -/
theorem rdI_row {k : IntKind} {w : World} {a : Option Addr} {n c : Nat} {zs : List Int}
    (h : (a = none ∧ n = 0 ∧ c = 0 ∧ zs = []) ∨
      ∃ x, a = some x ∧ n ≤ c ∧ c ≤ maxLen ∧ zs.length = c ∧ (∀ i, i < zs.length → w.cell? (x.add i) = some (.int k (zs.getD i 0))) ∧ ∀ n ∈ zs, (Lit.int k n).wf = true) :
    RdI k w a n c (zs.take n) ∧ ∀ z ∈ zs.take n, (Lit.int k z).wf = true := by
  rcases h with ⟨rfl, rfl, rfl, rfl⟩ | ⟨x, rfl, hl, hm, hz, hc, hw⟩
  · exact ⟨rdI_nil _ _, fun z hz => by simp at hz⟩
  · refine ⟨⟨⟨by simp; omega, hl, hm, fun h => by cases h⟩, fun hn => ?_⟩, fun z hz => hw z (List.mem_of_mem_take hz)⟩
    obtain ⟨b, off, rfl, hb⟩ := ints_at hc (by omega)
    refine ⟨b, off, rfl, fun i hi => ?_⟩
    rw [hb i (by omega)]
    simp [List.getD, hi]

theorem range_bytes {zs : List Int} (h : ∀ z ∈ zs, (Lit.int .u8 z).wf = true) (j : Nat) : 0 ≤ zs.getD j 0 ∧ zs.getD j 0 ≤ 255 := by
  by_cases hj : j < zs.length
  · have := bounds_u8 (h zs[j] (List.getElem_mem hj))
    simpa [List.getD, hj] using this
  · simp [List.getD, hj]

theorem Try.infoU8 : (Try.prog.info? 5).map (fun i => (i.zero, i.size, i.bytes)) = some (some (.int .u8 0), 1, 1) := by kernel_rfl

theorem below_drewN {B : Nat} {a w : World} (h : Below B a w) (n : Nat) : Below B a (w.drewN n) := h.trans ⟨rfl, rfl, rfl, Nat.le_refl _, fun _ _ => rfl⟩
theorem grown_trans {a b c : World} {row : Option Nat} (h : a.grownBy b row) (k : b.grownBy c row) : a.grownBy c row :=
  ⟨k.os.trans h.os, k.tape.trans h.tape, k.output.trans h.output, Nat.le_trans h.size k.size, fun i hi hne => (k.block i (Nat.lt_of_lt_of_le hi h.size) hne).trans (h.block i hi hne)⟩

theorem own_head {w : World} {base : Nat} {e : TypeId} {size : Nat} {a : Option Addr} {n cap : Nat} {xs : List Value} (h : w.ownsRow base e size (.slice a n cap) n xs) (hn : 0 < n) : ∃ g, a = some ⟨g, 0, none⟩ := by
  rcases h.2 with ⟨_, h0⟩ | ⟨g, cap, cur, hv, _⟩
  · omega
  · simp only [Value.slice.injEq] at hv
    exact ⟨g, hv.1⟩


theorem quo_le (n m : Int) (hn : 0 ≤ n) (hm : 1 ≤ m) : 0 ≤ n / m ∧ n / m ≤ n :=
  ⟨Int.ediv_nonneg hn (by omega), Int.ediv_le_self m hn⟩
theorem up_frac (n m : Int) (_ : 1 ≤ n) (hm : 1 ≤ m) (h : 0 < n % m) : (n - 1) / m = n / m := by
  have e := Int.mul_ediv_add_emod n m
  have hl := Int.emod_lt_of_pos n (b := m) (by omega)
  have : n - 1 = (n % m - 1) + m * (n / m) := by omega
  rw [this, Int.add_mul_ediv_left _ _ (by omega : m ≠ 0), Int.ediv_eq_zero_of_lt (by omega) (by omega)]
  omega
theorem up_whole (n m : Int) (_ : 1 ≤ n) (hm : 1 ≤ m) (h : ¬ 0 < n % m) : (n - 1) / m + 1 = n / m := by
  have e := Int.mul_ediv_add_emod n m
  have hl := Int.emod_nonneg n (b := m) (by omega)
  have : n - 1 = (m - 1) + m * (n / m - 1) := by
    rw [Int.mul_sub]; omega
  rw [this, Int.add_mul_ediv_left _ _ (by omega : m ≠ 0), Int.ediv_eq_zero_of_lt (by omega) (by omega)]
  omega

/-! ### blocks whose cells and marks are known -/
theorem grown_cell {W w1 : World} {g b : Nat} (h : W.grownBy w1 (some g)) (hb : b < W.heap.size) (hne : b ≠ g) : ∀ o, w1.cell? ⟨b, o, none⟩ = W.cell? ⟨b, o, none⟩ :=
  fun o => World.cell?_of_block (a := ⟨b, o, none⟩) (h.block b hb (fun e => hne (by simpa using e)))
theorem grown_frozen {W w1 : World} {g b : Nat} (h : W.grownBy w1 (some g)) (hb : b < W.heap.size) (hne : b ≠ g) : ∀ o, w1.frozen? ⟨b, o, none⟩ = W.frozen? ⟨b, o, none⟩ :=
  fun o => World.frozen?_of_block (a := ⟨b, o, none⟩) (h.block b hb (fun e => hne (by simpa using e)))
/-- A block that lies in a world stays as it is in a later one: a call that writes its own block and new ones alone. -/
theorem blk_keep {W w1 : World} {g b : Nat} (h : W.grownBy w1 (some g)) (hb : b < W.heap.size) (hne : b ≠ g) (f : Nat → Option Value) (m : Nat → Bool)
    (hk : (∀ o, W.cell? ⟨b, o, none⟩ = f o) ∧ (∀ o, W.frozen? ⟨b, o, none⟩ = m o)) : (∀ o, w1.cell? ⟨b, o, none⟩ = f o) ∧ (∀ o, w1.frozen? ⟨b, o, none⟩ = m o) :=
  ⟨fun o => (grown_cell h hb hne o).trans (hk.1 o), fun o => (grown_frozen h hb hne o).trans (hk.2 o)⟩
theorem blk_alloc {W : World} {b : Nat} (O : Obj) (hb : b < W.heap.size) (f : Nat → Option Value) (m : Nat → Bool)
    (hk : (∀ o, W.cell? ⟨b, o, none⟩ = f o) ∧ (∀ o, W.frozen? ⟨b, o, none⟩ = m o)) : (∀ o, (W.alloc O).cell? ⟨b, o, none⟩ = f o) ∧ (∀ o, (W.alloc O).frozen? ⟨b, o, none⟩ = m o) :=
  ⟨fun o => (World.cell?_alloc_lt W O ⟨b, o, none⟩ hb).trans (hk.1 o), fun o => (World.frozen?_alloc_old W O ⟨b, o, none⟩ (Nat.ne_of_lt hb)).trans (hk.2 o)⟩
theorem blk_new (W : World) (cs : Array Value) (t : TypeId) : (∀ o, (W.alloc (.cells cs t)).cell? ⟨W.heap.size, o, none⟩ = cs[o]?) ∧ (∀ o, (W.alloc (.cells cs t)).frozen? ⟨W.heap.size, o, none⟩ = false) :=
  ⟨fun o => by rw [cell_of_row _ _ o _ _ _ (heap_alloc_new W (.cells cs t))], fun o => frozen_of_row _ _ o _ _ (heap_alloc_new W (.cells cs t))⟩

theorem blk_new1 (W : World) (O : Obj) (cs : Array Value) (t : TypeId) : (∀ o, ((W.alloc O).alloc (.cells cs t)).cell? ⟨W.heap.size + 1, o, none⟩ = cs[o]?) ∧ (∀ o, ((W.alloc O).alloc (.cells cs t)).frozen? ⟨W.heap.size + 1, o, none⟩ = false) := by
  have h := blk_new (W.alloc O) cs t
  rw [show (W.alloc O).heap.size = W.heap.size + 1 by simp] at h
  exact h
theorem below_keep {W w1 : World} {b B : Nat} (h : Below B W w1) (hb : b < B) (f : Nat → Option Value) (m : Nat → Bool)
    (hk : (∀ o, W.cell? ⟨b, o, none⟩ = f o) ∧ (∀ o, W.frozen? ⟨b, o, none⟩ = m o)) : (∀ o, w1.cell? ⟨b, o, none⟩ = f o) ∧ (∀ o, w1.frozen? ⟨b, o, none⟩ = m o) :=
  ⟨fun o => (h.cell (p := ⟨b, o, none⟩) hb).trans (hk.1 o), fun o => (h.frozen (p := ⟨b, o, none⟩) hb).trans (hk.2 o)⟩
/-- All old cells and all old marks read as before. -/
theorem bcell {W w1 : World} (hb : Below W.heap.size W w1) : (∀ b o, b < W.heap.size → w1.cell? ⟨b, o, none⟩ = W.cell? ⟨b, o, none⟩) ∧ (∀ b o, b < W.heap.size → w1.frozen? ⟨b, o, none⟩ = W.frozen? ⟨b, o, none⟩) :=
  ⟨fun b o h => hb.cell (p := ⟨b, o, none⟩) h, fun b o h => hb.frozen (p := ⟨b, o, none⟩) h⟩
theorem blk_new_drew (W : World) (cs : Array Value) (t : TypeId) : (∀ o, (W.alloc (.cells cs t)).drew.cell? ⟨W.heap.size, o, none⟩ = cs[o]?) ∧ (∀ o, (W.alloc (.cells cs t)).drew.frozen? ⟨W.heap.size, o, none⟩ = false) := blk_new W cs t
theorem new_below (W : World) (o : Obj) : Below W.heap.size W (W.alloc o) := (Below.refl _ _).alloc (Nat.le_refl _) _
theorem drew_below (W : World) : Below W.heap.size W W.drew := (Below.refl _ _).drew

end Go.Proofs.Ytnebhbnogmhbgaa

/- Slices whose elements take several cells: what is read, what is owned. -/
namespace Go.Proofs.Ytnebhbnogmhbgaa
open Go.RowKit

/-- How an element lies in memory: its cells, sz of them. -/
structure Lay (α : Type) where
  sz : Nat
  cells : α → List Value
  len : ∀ x, (cells x).length = sz
  pos : 0 < sz
  one : ∀ x, ∀ u ∈ cells x, u.oneCell' = true

theorem flat_len {α : Type} (L : Lay α) (xs : List α) : (xs.flatMap L.cells).length = xs.length * L.sz := by
  induction xs with
  | nil => simp
  | cons x l ih => simp [L.len, ih, Nat.succ_mul, Nat.add_comm]
theorem flat_at {α : Type} (L : Lay α) (xs : List α) (i j : Nat) (hj : j < L.sz) : (xs.flatMap L.cells)[i * L.sz + j]? = (xs[i]?).bind fun x => (L.cells x)[j]? := by
  induction xs generalizing i with
  | nil => simp
  | cons x l ih =>
    rw [List.flatMap_cons]
    cases i with
    | zero => rw [Nat.zero_mul, Nat.zero_add, List.getElem?_append_left (by rw [L.len]; exact hj)]; rfl
    | succ i =>
      rw [List.getElem?_append_right (by rw [L.len, Nat.succ_mul]; omega), L.len, show (i + 1) * L.sz + j - L.sz = i * L.sz + j by rw [Nat.succ_mul]; omega, ih]
      rfl
theorem flat_one {α : Type} (L : Lay α) (xs : List α) : ∀ u ∈ xs.flatMap L.cells, u.oneCell' = true := by
  intro u hu
  obtain ⟨x, _, h⟩ := List.mem_flatMap.1 hu
  exact L.one x u h

/-- A slice value that reads as the elements xs. -/
def RdS {α : Type} (L : Lay α) (w : World) (a : Option Addr) (n cap : Nat) (xs : List α) : Prop :=
  (xs.length = n ∧ n ≤ cap ∧ cap ≤ maxLen ∧ (a = none → n = 0 ∧ cap = 0)) ∧ (0 < n → ∃ b off, a = some ⟨b, off, none⟩ ∧ ∀ i x, xs[i]? = some x → ∀ j u, (L.cells x)[j]? = some u → w.cell? ⟨b, off + (i * L.sz + j), none⟩ = some u)

def OwnS {α : Type} (L : Lay α) (e : TypeId) (w : World) (base : Nat) (v : Value) (xs : List α) : Prop := w.ownsRow base e L.sz v xs.length (xs.flatMap L.cells)

section
variable {α : Type} {L : Lay α} {w w' : World} {a : Option Addr} {n cap : Nat} {xs : List α}
theorem RdS.below (h : RdS L w a n cap xs) (hB : Below w.heap.size w w') : RdS L w' a n cap xs := by
  refine ⟨h.1, fun hn => ?_⟩
  obtain ⟨b, off, e, hc⟩ := h.2 hn
  refine ⟨b, off, e, fun i x hi j u hj => ?_⟩
  have := hc i x hi j u hj
  have hlt : b < w.heap.size := World.block_lt_of_cell? w ⟨b, off + (i * L.sz + j), none⟩ this
  rw [hB.cell (p := ⟨b, off + (i * L.sz + j), none⟩) hlt]
  exact this
theorem RdS.lt (h : RdS L w a n cap xs) {b off : Nat} (hn : 0 < n) (ha : a = some ⟨b, off, none⟩) : b < w.heap.size := by
  obtain ⟨b', off', e, hc⟩ := h.2 hn
  rw [ha] at e
  obtain ⟨rfl, rfl⟩ : b = b' ∧ off = off' := by simpa using e
  have hx : xs[0]? = some (xs[0]'(by have := h.1.1; omega)) := List.getElem?_eq_getElem _
  have hu : (L.cells (xs[0]'(by have := h.1.1; omega)))[0]? = some ((L.cells (xs[0]'(by have := h.1.1; omega)))[0]'(by rw [L.len]; exact L.pos)) := List.getElem?_eq_getElem _
  exact World.block_lt_of_cell? w ⟨b, off + (0 * L.sz + 0), none⟩ (hc 0 _ hx 0 _ hu)
theorem rdS_nil (w : World) : RdS L w none 0 0 [] := ⟨⟨rfl, Nat.le_refl _, by simp [maxLen], fun _ => ⟨rfl, rfl⟩⟩, fun h => by omega⟩
/-- An element's cells. -/
theorem RdS.at_ (h : RdS L w a n cap xs) {i : Nat} (hi : i < n) : ∃ b off, a = some ⟨b, off, none⟩ ∧ b < w.heap.size ∧ ∃ x, xs[i]? = some x ∧ ∀ j u, (L.cells x)[j]? = some u → w.cell? ⟨b, off + (i * L.sz + j), none⟩ = some u := by
  obtain ⟨b, off, e, hc⟩ := h.2 (by omega)
  have hx : xs[i]? = some (xs[i]'(by have := h.1.1; omega)) := List.getElem?_eq_getElem _
  exact ⟨b, off, e, h.lt (by omega) e, _, hx, fun j u hj => hc i _ hx j u hj⟩
end

section
variable {α : Type} {L : Lay α} {w w' : World} {e : TypeId} {base : Nat} {v : Value} {xs : List α}
theorem OwnS.rd (h : OwnS L e w base v xs) : ∃ a cap, v = .slice a xs.length cap ∧ RdS L w a xs.length cap xs := by
  have hown := h
  rcases h.2 with ⟨rfl, hn⟩ | ⟨g, cap, cur, rfl, hb, hh, r⟩
  · exact ⟨none, 0, by rw [hn], ⟨rfl, by omega, by simp [maxLen], fun _ => ⟨hn, rfl⟩⟩, fun h => by omega⟩
  · refine ⟨_, cap, rfl, ⟨rfl, r.1, r.2.1, fun h => by cases h⟩, fun _ => ⟨g, 0, rfl, fun i x hi j u hj => ?_⟩⟩
    have hij : i < xs.length := (List.getElem?_eq_some_iff.1 hi).1
    have hjs : j < L.sz := by have := (List.getElem?_eq_some_iff.1 hj).1; rw [L.len] at this; exact this
    have hlt : i * L.sz + j < xs.length * L.sz := by
      have : (i + 1) * L.sz ≤ xs.length * L.sz := Nat.mul_le_mul_right _ hij
      rw [Nat.succ_mul] at this; omega
    rw [Nat.zero_add, World.ownsRow.cellAt hown _ hlt, flat_at L xs i j hjs, hi]
    exact hj
theorem OwnS.kept {row : Option Nat} (h : OwnS L e w base v xs) (hg : w.grownBy w' row) (hne : v.ownBlock = none ∨ v.ownBlock ≠ row) : OwnS L e w' base v xs := World.ownsRow.kept h hg hne
theorem OwnS.below (h : OwnS L e w base v xs) (hB : Below w.heap.size w w') : OwnS L e w' base v xs := OwnS.kept h (Below.toGrown hB none) (by cases v.ownBlock <;> simp)
theorem OwnS.mono {base' : Nat} (h : OwnS L e w base' v xs) (hb : base ≤ base') : OwnS L e w base v xs := by
  refine ⟨h.1, ?_⟩
  rcases h.2 with h2 | ⟨g, cap, cur, hv, hg, r⟩
  · exact .inl h2
  · exact .inr ⟨g, cap, cur, hv, by omega, r⟩
end

/-- A rectangle. -/
structure Bx where
  x0 : Int
  y0 : Int
  x1 : Int
  y1 : Int

def bxLay : Lay Bx := ⟨4, fun b => [.int .i64 b.x0, .int .i64 b.y0, .int .i64 b.x1, .int .i64 b.y1], fun _ => rfl, by decide, fun x u hu => by simp at hu; rcases hu with rfl | rfl | rfl | rfl <;> rfl⟩

/-- A rectangle's four cells in a slice. -/
theorem rdBx_at {w : World} {a : Option Addr} {n cap i : Nat} {xs : List Bx} (h : RdS bxLay w a n cap xs) (hi : i < n) :
    ∃ b off x, a = some ⟨b, off, none⟩ ∧ b < w.heap.size ∧ xs[i]? = some x ∧ w.cell? ⟨b, off + i * 4, none⟩ = some (.int .i64 x.x0) ∧ w.cell? ⟨b, off + i * 4 + 1, none⟩ = some (.int .i64 x.y0) ∧
      w.cell? ⟨b, off + i * 4 + 2, none⟩ = some (.int .i64 x.x1) ∧ w.cell? ⟨b, off + i * 4 + 3, none⟩ = some (.int .i64 x.y1) := by
  obtain ⟨b, off, e, hlt, x, hx, hc⟩ := h.at_ hi
  exact ⟨b, off, x, e, hlt, hx, hc 0 _ rfl, hc 1 _ rfl, hc 2 _ rfl, hc 3 _ rfl⟩

end Go.Proofs.Ytnebhbnogmhbgaa

/- The model's l1In: is a number within bounds. -/
namespace Go.Proofs.Ytnebhbnogmhbgaa
open Go.RowKit

set_option maxRecDepth 100000 in
set_option maxHeartbeats 400000 in
theorem l1In_yes (x a b : Int) (w : World) (h : a ≤ x) (h2 : x ≤ b) : Calls Try.prog 67 #[.int .i64 x, .int .i64 a, .int .i64 b] w fun e w' => e = .returned (.bool true) ∧ w = w' := by
  go_enter Try.func67, Try.ntmps67
  go_wp2
  go_ret
  exact ⟨rfl, rfl⟩
set_option maxRecDepth 100000 in
set_option maxHeartbeats 400000 in
theorem l1In_no (x a b : Int) (w : World) (h : ¬ (a ≤ x ∧ x ≤ b)) : Calls Try.prog 67 #[.int .i64 x, .int .i64 a, .int .i64 b] w fun e w' => e = .returned (.bool false) ∧ w = w' := by
  by_cases h1 : a ≤ x
  · have h2 : ¬ x ≤ b := fun h2 => h ⟨h1, h2⟩
    clear h
    go_enter Try.func67, Try.ntmps67
    go_wp2
    go_ret
    exact ⟨rfl, rfl⟩
  · clear h
    go_enter Try.func67, Try.ntmps67
    go_wp2
    go_ret
    exact ⟨rfl, rfl⟩

end Go.Proofs.Ytnebhbnogmhbgaa

/- The smaller and the larger of two integers: the program's and the model's functions. -/
namespace Go.Proofs.Ytnebhbnogmhbgaa
open Go.RowKit

def lst (a b : Int) : Int := if b < a then b else a
def mst (a b : Int) : Int := if b > a then b else a
theorem lst_min (a b : Int) : lst a b = min a b := by unfold lst; omega
theorem mst_max (a b : Int) : mst a b = max a b := by unfold mst; omega

set_option maxRecDepth 100000 in
set_option maxHeartbeats 400000 in
theorem sLeast_gt (a b : Int) (w : World) (h : b < a) : Calls Try.prog 119 #[.int .i64 a, .int .i64 b] w fun e w' => e = .returned (.int .i64 b) ∧ w = w' := by
  go_enter Try.func119, Try.ntmps119
  go_wp2
  go_ret
  exact ⟨rfl, rfl⟩
set_option maxRecDepth 100000 in
set_option maxHeartbeats 400000 in
theorem sLeast_le (a b : Int) (w : World) (h : a ≤ b) : Calls Try.prog 119 #[.int .i64 a, .int .i64 b] w fun e w' => e = .returned (.int .i64 a) ∧ w = w' := by
  go_enter Try.func119, Try.ntmps119
  go_wp2
  go_ret
  exact ⟨rfl, rfl⟩
set_option maxRecDepth 100000 in
set_option maxHeartbeats 400000 in
theorem sMost_gt (a b : Int) (w : World) (h : b > a) : Calls Try.prog 138 #[.int .i64 a, .int .i64 b] w fun e w' => e = .returned (.int .i64 b) ∧ w = w' := by
  go_enter Try.func138, Try.ntmps138
  go_wp2
  go_ret
  exact ⟨rfl, rfl⟩
set_option maxRecDepth 100000 in
set_option maxHeartbeats 400000 in
theorem sMost_le (a b : Int) (w : World) (h : b ≤ a) : Calls Try.prog 138 #[.int .i64 a, .int .i64 b] w fun e w' => e = .returned (.int .i64 a) ∧ w = w' := by
  go_enter Try.func138, Try.ntmps138
  go_wp2
  go_ret
  exact ⟨rfl, rfl⟩
theorem sLeast_any (a b : Int) (w : World) : Calls Try.prog 119 #[.int .i64 a, .int .i64 b] w fun e w' => e = .returned (.int .i64 (lst a b)) ∧ w = w' := by
  by_cases h : b < a
  · refine (sLeast_gt a b w h).mono fun e w' ⟨he, hw⟩ => ⟨?_, hw⟩
    rw [he]; unfold lst; rw [if_pos h]
  · refine (sLeast_le a b w (by omega)).mono fun e w' ⟨he, hw⟩ => ⟨?_, hw⟩
    rw [he]; unfold lst; rw [if_neg h]
theorem sMost_any (a b : Int) (w : World) : Calls Try.prog 138 #[.int .i64 a, .int .i64 b] w fun e w' => e = .returned (.int .i64 (mst a b)) ∧ w = w' := by
  by_cases h : b > a
  · refine (sMost_gt a b w h).mono fun e w' ⟨he, hw⟩ => ⟨?_, hw⟩
    rw [he]; unfold mst; rw [if_pos h]
  · refine (sMost_le a b w (by omega)).mono fun e w' ⟨he, hw⟩ => ⟨?_, hw⟩
    rw [he]; unfold mst; rw [if_neg h]
end Go.Proofs.Ytnebhbnogmhbgaa

/- Rectangles: contracts of the program's and the model's functions over one rectangle or two. -/
namespace Go.Proofs.Ytnebhbnogmhbgaa
open Go.RowKit

theorem ret_bool {a b : Bool} (h : a = b) : Ending.returned (.bool a) = .returned (.bool b) := by rw [h]
theorem ret_i64 {a b : Int} (h : a = b) : Ending.returned (.int .i64 a) = .returned (.int .i64 b) := by rw [h]

/-- A range of coordinates. -/
def rngB (a b : Int) : Bool := decide (0 ≤ a ∧ a ≤ b ∧ b ≤ 255)
def inB (x a b : Int) : Bool := decide (a ≤ x ∧ x ≤ b)
/-- A valid rectangle. -/
def okB (x0 y0 x1 y1 : Int) : Bool := rngB x0 x1 && rngB y0 y1

set_option maxRecDepth 100000 in
set_option maxHeartbeats 400000 in
theorem rangeOk_any (a b : Int) (w : World) : Calls Try.prog 130 #[.int .i64 a, .int .i64 b] w fun e w' => e = .returned (.bool (rngB a b)) ∧ w = w' := by
  by_cases h0 : 0 ≤ a
  · by_cases h1 : a ≤ b
    · by_cases h2 : b ≤ 255
      · have hr : Hid (rngB a b = true) := decide_eq_true ⟨h0, h1, h2⟩
        go_enter Try.func130, Try.ntmps130
        go_wp2
        go_ret
        exact ⟨ret_bool hr.out.symm, rfl⟩
      · have hr : Hid (rngB a b = false) := decide_eq_false (fun h => h2 h.2.2)
        have hd : decide (b ≤ 255) = false := decide_eq_false h2
        go_enter Try.func130, Try.ntmps130
        go_wp2
        go_ret
        exact ⟨ret_bool hr.out.symm, rfl⟩
    · have hr : Hid (rngB a b = false) := decide_eq_false (fun h => h1 h.2.1)
      have hd : decide (a ≤ b) = false := decide_eq_false h1
      go_enter Try.func130, Try.ntmps130
      go_wp2
      go_ret
      exact ⟨ret_bool hr.out.symm, rfl⟩
  · have hr : Hid (rngB a b = false) := decide_eq_false (fun h => h0 h.1)
    have hd : decide (0 ≤ a) = false := decide_eq_false h0
    go_enter Try.func130, Try.ntmps130
    go_wp2
    go_ret
    exact ⟨ret_bool hr.out.symm, rfl⟩

theorem l1In_any (x a b : Int) (w : World) : Calls Try.prog 67 #[.int .i64 x, .int .i64 a, .int .i64 b] w fun e w' => e = .returned (.bool (inB x a b)) ∧ w = w' := by
  by_cases h : a ≤ x ∧ x ≤ b
  · refine (l1In_yes x a b w h.1 h.2).mono fun e w' ⟨he, hw⟩ => ⟨?_, hw⟩
    rw [he]; unfold inB; rw [decide_eq_true h]
  · refine (l1In_no x a b w h).mono fun e w' ⟨he, hw⟩ => ⟨?_, hw⟩
    rw [he]; unfold inB; rw [decide_eq_false h]

set_option maxRecDepth 100000 in
set_option maxHeartbeats 400000 in
theorem iBoxOk_any (x0 y0 x1 y1 : Int) (w : World) : Calls Try.prog 122 #[.agg #[.int .i64 x0, .int .i64 y0, .int .i64 x1, .int .i64 y1]] w fun e w' =>
    e = .returned (.bool (okB x0 y0 x1 y1)) ∧ Below w.heap.size w w' := by
  cases h : rngB x0 x1 with
  | true =>
    have hr : Hid (okB x0 y0 x1 y1 = rngB y0 y1) := by show okB x0 y0 x1 y1 = _; unfold okB; rw [h]; rfl
    go_enter Try.func122, Try.ntmps122
    go_wp2_with fail
    refine (rangeOk_any x0 x1 _).mono ?_
    rintro e w1 ⟨rfl, rfl⟩
    go_wp2_with fail
    refine (rangeOk_any y0 y1 _).mono ?_
    rintro e w1 ⟨rfl, rfl⟩
    go_wp2
    go_ret
    exact ⟨ret_bool hr.out.symm, (Below.refl _ _).alloc (Nat.le_refl _) _⟩
  | false =>
    have hr : Hid (okB x0 y0 x1 y1 = false) := by show okB x0 y0 x1 y1 = _; unfold okB; rw [h]; rfl
    go_enter Try.func122, Try.ntmps122
    go_wp2_with fail
    refine (rangeOk_any x0 x1 _).mono ?_
    rintro e w1 ⟨rfl, rfl⟩
    go_wp2
    go_ret
    exact ⟨ret_bool hr.out.symm, (Below.refl _ _).alloc (Nat.le_refl _) _⟩


theorem okB_iff (x0 y0 x1 y1 : Int) : okB x0 y0 x1 y1 = true ↔ (0 ≤ x0 ∧ x0 ≤ x1 ∧ x1 ≤ 255) ∧ (0 ≤ y0 ∧ y0 ≤ y1 ∧ y1 ≤ 255) := by
  unfold okB rngB; simp
theorem okB_in (x0 y0 x1 y1 : Int) : okB x0 y0 x1 y1 = (((inB x0 0 255 && inB y0 0 255) && inB x1 x0 255) && inB y1 y0 255) := by
  rw [Bool.eq_iff_iff, okB_iff]; unfold inB; simp; omega

set_option maxRecDepth 100000 in
set_option maxHeartbeats 400000 in
theorem sBoxOk_any (x0 y0 x1 y1 : Int) (w : World) : Calls Try.prog 97 #[.agg #[.int .i64 x0, .int .i64 y0, .int .i64 x1, .int .i64 y1]] w fun e w' =>
    e = .returned (.bool (okB x0 y0 x1 y1)) ∧ Below w.heap.size w w' := by
  have hr : Hid (okB x0 y0 x1 y1 = _) := okB_in x0 y0 x1 y1
  cases h1 : inB x0 0 255 with
  | false =>
    go_enter Try.func97, Try.ntmps97
    go_wp2_with fail
    refine (l1In_any _ _ _ _).mono ?_
    rintro e w1 ⟨rfl, rfl⟩
    go_wp2
    go_ret
    exact ⟨ret_bool (by rw [hr.out, h1]; rfl), (Below.refl _ _).alloc (Nat.le_refl _) _⟩
  | true =>
  cases h2 : inB y0 0 255 with
  | false =>
    go_enter Try.func97, Try.ntmps97
    go_wp2_with fail
    refine (l1In_any _ _ _ _).mono ?_
    rintro e w1 ⟨rfl, rfl⟩
    go_wp2_with fail
    refine (l1In_any _ _ _ _).mono ?_
    rintro e w1 ⟨rfl, rfl⟩
    go_wp2
    go_ret
    exact ⟨ret_bool (by rw [hr.out, h1, h2]; rfl), (Below.refl _ _).alloc (Nat.le_refl _) _⟩
  | true =>
  cases h3 : inB x1 x0 255 with
  | false =>
    go_enter Try.func97, Try.ntmps97
    go_wp2_with fail
    refine (l1In_any _ _ _ _).mono ?_
    rintro e w1 ⟨rfl, rfl⟩
    go_wp2_with fail
    refine (l1In_any _ _ _ _).mono ?_
    rintro e w1 ⟨rfl, rfl⟩
    go_wp2_with fail
    refine (l1In_any _ _ _ _).mono ?_
    rintro e w1 ⟨rfl, rfl⟩
    go_wp2
    go_ret
    exact ⟨ret_bool (by rw [hr.out, h1, h2, h3]; rfl), (Below.refl _ _).alloc (Nat.le_refl _) _⟩
  | true =>
    go_enter Try.func97, Try.ntmps97
    go_wp2_with fail
    refine (l1In_any _ _ _ _).mono ?_
    rintro e w1 ⟨rfl, rfl⟩
    go_wp2_with fail
    refine (l1In_any _ _ _ _).mono ?_
    rintro e w1 ⟨rfl, rfl⟩
    go_wp2_with fail
    refine (l1In_any _ _ _ _).mono ?_
    rintro e w1 ⟨rfl, rfl⟩
    go_wp2_with fail
    refine (l1In_any _ _ _ _).mono ?_
    rintro e w1 ⟨rfl, rfl⟩
    go_wp2
    go_ret
    exact ⟨ret_bool (by rw [hr.out, h1, h2, h3]; rfl), (Below.refl _ _).alloc (Nat.le_refl _) _⟩

/-- The number of points; 0 of what is no rectangle. -/
def areaB (x0 y0 x1 y1 : Int) : Int := if okB x0 y0 x1 y1 = true then (x1 - x0 + 1) * (y1 - y0 + 1) else 0
theorem areaB_no {x0 y0 x1 y1 : Int} (h : okB x0 y0 x1 y1 = false) : areaB x0 y0 x1 y1 = 0 := by unfold areaB; rw [h]; rfl
theorem areaB_yes {x0 y0 x1 y1 : Int} (h : okB x0 y0 x1 y1 = true) : areaB x0 y0 x1 y1 = (x1 - x0 + 1) * (y1 - y0 + 1) := by unfold areaB; rw [h]; rfl
theorem areaB_bd (x0 y0 x1 y1 : Int) : 0 ≤ areaB x0 y0 x1 y1 ∧ areaB x0 y0 x1 y1 ≤ 65536 := by
  cases h : okB x0 y0 x1 y1 with
  | false => rw [areaB_no h]; omega
  | true =>
    rw [areaB_yes h]
    obtain ⟨⟨a, b, c⟩, d, e, f⟩ := (okB_iff _ _ _ _).1 h
    refine ⟨Int.mul_nonneg (by omega) (by omega), ?_⟩
    exact Int.le_trans (Int.mul_le_mul (by omega : x1 - x0 + 1 ≤ 256) (by omega : y1 - y0 + 1 ≤ 256) (by omega) (by omega)) (by omega)

set_option maxRecDepth 100000 in
set_option maxHeartbeats 400000 in
theorem sArea_any (x0 y0 x1 y1 : Int) (w : World) : Calls Try.prog 134 #[.agg #[.int .i64 x0, .int .i64 y0, .int .i64 x1, .int .i64 y1]] w fun e w' =>
    e = .returned (.int .i64 (areaB x0 y0 x1 y1)) ∧ Below w.heap.size w w' := by
  cases h : okB x0 y0 x1 y1 with
  | false =>
    go_enter Try.func134, Try.ntmps134
    go_wp2_with fail
    refine (sBoxOk_any x0 y0 x1 y1 _).mono ?_
    rintro e w1 ⟨rfl, hb⟩
    go_wp2
    go_ret
    exact ⟨ret_i64 (areaB_no h).symm, ((Below.refl _ _).alloc (Nat.le_refl _) _).trans (hb.mono (by simp))⟩
  | true =>
    obtain ⟨⟨a1, b1, c1⟩, d1, e1, f1⟩ := (okB_iff _ _ _ _).1 h
    have he := Lib.hid (areaB_yes h)
    have hm := areaB_bd x0 y0 x1 y1
    rw [he.out] at hm
    obtain ⟨m0, m1⟩ := hm
    go_enter Try.func134, Try.ntmps134
    go_wp2_with fail
    refine (sBoxOk_any x0 y0 x1 y1 _).mono ?_
    rintro e w1 ⟨rfl, hb⟩
    have hc : ∀ o, w1.cell? ⟨w.heap.size, o, none⟩ = _ := fun o => hb.cell (p := ⟨w.heap.size, o, none⟩) (by simp)
    go_wp2
    go_ret
    exact ⟨ret_i64 he.out.symm, ((Below.refl _ _).alloc (Nat.le_refl _) _).trans (hb.mono (by simp))⟩


/-- Block b holds a rectangle. -/
def IsBox (w : World) (b : Nat) (x0 y0 x1 y1 : Int) : Prop :=
  w.cell? ⟨b, 0, none⟩ = some (.int .i64 x0) ∧ w.cell? ⟨b, 1, none⟩ = some (.int .i64 y0) ∧ w.cell? ⟨b, 2, none⟩ = some (.int .i64 x1) ∧ w.cell? ⟨b, 3, none⟩ = some (.int .i64 y1)

set_option maxRecDepth 100000 in
set_option maxHeartbeats 400000 in
theorem sJoin_any (x0 y0 x1 y1 u0 v0 u1 v1 : Int) (w : World) : Calls Try.prog 136 #[.agg #[.int .i64 x0, .int .i64 y0, .int .i64 x1, .int .i64 y1], .agg #[.int .i64 u0, .int .i64 v0, .int .i64 u1, .int .i64 v1]] w fun e w' =>
    e = .returned (.agg #[.int .i64 (lst x0 u0), .int .i64 (lst y0 v0), .int .i64 (mst x1 u1), .int .i64 (mst y1 v1)]) ∧ Below w.heap.size w w' := by
  go_enter Try.func136, Try.ntmps136
  go_wp2_with fail
  go_region_held3 (fun w' => (w'.cell? ⟨w.heap.size, 0, none⟩ = some (.int .i64 x0) ∧ w'.cell? ⟨w.heap.size, 1, none⟩ = some (.int .i64 y0) ∧ w'.cell? ⟨w.heap.size, 2, none⟩ = some (.int .i64 x1) ∧ w'.cell? ⟨w.heap.size, 3, none⟩ = some (.int .i64 y1)) ∧
      (w'.cell? ⟨w.heap.size + 1, 0, none⟩ = some (.int .i64 u0) ∧ w'.cell? ⟨w.heap.size + 1, 1, none⟩ = some (.int .i64 v0) ∧ w'.cell? ⟨w.heap.size + 1, 2, none⟩ = some (.int .i64 u1) ∧ w'.cell? ⟨w.heap.size + 1, 3, none⟩ = some (.int .i64 v1)))
    (first | (simp; done) | go_keep)
    (first | ((with_reducible refine (sLeast_any _ _ _).mono ?_); rintro e w1 ⟨rfl, rfl⟩) | ((with_reducible refine (sMost_any _ _ _).mono ?_); rintro e w1 ⟨rfl, rfl⟩))
  go_wp2
  refine bodyPost_ret (v := .agg #[.int .i64 (lst x0 u0), .int .i64 (lst y0 v0), .int .i64 (mst x1 u1), .int .i64 (mst y1 v1)]) (by simp [results, Try.results136, go_sem]) rfl ⟨rfl, ?_⟩
  exact ((((Below.refl _ _).alloc (Nat.le_refl _) _).alloc (by simp) _).alloc (by simp; omega) _).drew
end Go.Proofs.Ytnebhbnogmhbgaa
