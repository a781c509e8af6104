/- Slices of one-cell integers: what is read and what is owned; lists told by their places; append. -/
import Derived.Test.YtnebhbnogmhbgaaChecked
import Derived.WalkKit
import Derived.ProofKit
import Derived.OpenShut
import Derived.RegionTactic
import Derived.Deep.QuietTactic
import Derived.BigQuiet
import Derived.WalkLawsBesides
import Derived.WalkSpells
import Derived.Lib.Hide
import Derived.Laws.AppendOwnNone
namespace Go.Proofs.Ytnebhbnogmhbgaa
open Go.RowKit

/-- A slice value that reads as the numbers zs. -/
def RdI (k : IntKind) (w : World) (a : Option Addr) (n cap : Nat) (zs : List Int) : Prop :=
  (zs.length = n ∧ n ≤ cap ∧ cap ≤ maxLen ∧ (a = none → n = 0 ∧ cap = 0)) ∧ (0 < n → ∃ b off, a = some ⟨b, off, none⟩ ∧ ∀ i, i < n → w.cell? ⟨b, off + i, none⟩ = some (.int k (zs.getD i 0)))

def Own (k : IntKind) (e : TypeId) (w : World) (base : Nat) (v : Value) (zs : List Int) : Prop :=
  w.ownsRow base e 1 v zs.length (zs.map (Value.int k))

theorem Own.rd {k : IntKind} {e : TypeId} {w : World} {base : Nat} {v : Value} {zs : List Int} (h : Own k e w base v zs) :
    ∃ a cap, v = .slice a zs.length cap ∧ RdI k w a zs.length cap zs := by
  rcases h.2 with ⟨rfl, hn⟩ | ⟨g, cap, cur, rfl, hb, hh, r⟩
  · exact ⟨none, 0, by rw [hn], ⟨rfl, by omega, by simp [maxLen], fun _ => ⟨hn, rfl⟩⟩, fun h => by omega⟩
  · refine ⟨_, cap, rfl, ⟨rfl, r.1, r.2.1, fun h => by cases h⟩, fun _ => ⟨g, 0, rfl, fun i hi => ?_⟩⟩
    have := World.ownsRow.cellAt h i (by omega)
    rw [Nat.zero_add, this]
    simp [hi]

theorem RdI.below {k : IntKind} {w w' : World} {a : Option Addr} {n cap : Nat} {zs : List Int} (h : RdI k w a n cap zs) (hB : Below w.heap.size w w') : RdI k w' a n cap zs := by
  refine ⟨h.1, fun hn => ?_⟩
  obtain ⟨b, off, e, hc⟩ := h.2 hn
  refine ⟨b, off, e, fun i hi => ?_⟩
  have hlt : b < w.heap.size := World.block_lt_of_cell? w ⟨b, off + i, none⟩ (hc i hi)
  rw [hB.cell (p := ⟨b, off + i, none⟩) hlt]
  exact hc i hi

theorem Own.kept {k : IntKind} {e : TypeId} {w w' : World} {base : Nat} {v : Value} {zs : List Int} {row : Option Nat} (h : Own k e w base v zs) (hg : w.grownBy w' row)
    (hne : v.ownBlock = none ∨ v.ownBlock ≠ row) : Own k e w' base v zs := World.ownsRow.kept h hg hne

theorem Below.toGrown {w w' : World} (h : Below w.heap.size w w') (row : Option Nat) : w.grownBy w' row :=
  ⟨h.os, h.tape, h.output, h.size, fun k hk _ => h.block k hk⟩

theorem Own.below {k : IntKind} {e : TypeId} {w w' : World} {base : Nat} {v : Value} {zs : List Int} (h : Own k e w base v zs) (hB : Below w.heap.size w w') : Own k e w' base v zs :=
  Own.kept h (Below.toGrown hB none) (by cases v.ownBlock <;> simp)

theorem grownNone_below {w w' : World} (h : w.grownBy w' none) : Below w.heap.size w w' := ⟨h.os, h.tape, h.output, h.size, fun k hk => h.block k hk (by simp)⟩

/-! ### lists told by their places -/
def gen {α : Type} (n : Nat) (f : Nat → α) : List α := (List.range n).map f
theorem gen_length {α : Type} (n : Nat) (f : Nat → α) : (gen n f).length = n := by simp [gen]
theorem gen_at {α : Type} (n : Nat) (f : Nat → α) (k : Nat) (h : k < n) : (gen n f)[k]? = some (f k) := by simp [gen, h]
theorem gen_getD {α : Type} (n : Nat) (f : Nat → α) (d : α) (k : Nat) (h : k < n) : (gen n f).getD k d = f k := by simp [gen, List.getD, h]
theorem gen_congr {α : Type} (n : Nat) (f g : Nat → α) (h : ∀ j, j < n → f j = g j) : gen n f = gen n g := by
  unfold gen
  exact List.map_congr_left fun j hj => h j (List.mem_range.1 hj)
theorem gen_set {α : Type} (n : Nat) (f : Nat → α) (k : Nat) (x : α) : (gen n f).set k x = gen n (fun j => if j = k then x else f j) := by
  apply List.ext_getElem?
  intro j
  rw [List.getElem?_set]
  by_cases hj : j < n
  · rw [gen_at n _ j hj, gen_at n _ j hj, gen_length]
    by_cases h : k = j
    · subst h; simp [hj]
    · rw [if_neg h, if_neg (fun e => h e.symm)]
  · have h1 : (gen n f)[j]? = none := by simp [gen]; omega
    have h2 : (gen n (fun j => if j = k then x else f j))[j]? = none := by simp [gen]; omega
    rw [h1, h2, gen_length]
    by_cases h : k = j
    · subst h; simp [hj]
    · rw [if_neg h]
theorem gen_list {α : Type} (zs : List α) (d : α) (n : Nat) (h : zs.length = n) : gen n (fun j => zs.getD j d) = zs := by
  subst h
  apply List.ext_getElem?
  intro j
  by_cases hj : j < zs.length
  · rw [gen_at _ _ j hj]; simp [List.getD, hj]
  · have h1 : (gen zs.length (fun j => zs.getD j d))[j]? = none := by simp [gen]; omega
    rw [h1]; simp; omega

/-- The first k of zs, then zeros, n in all. -/
def copied (zs : List Int) (n k : Nat) : List Int := gen n fun j => if j < k then zs.getD j 0 else 0
theorem copied_at (zs : List Int) (n k : Nat) (hk : k < n) : (copied zs n k)[k]? = some 0 := by
  unfold copied
  rw [gen_at n _ k hk]; simp
theorem copied_set (zs : List Int) (n k : Nat) : copied zs n (k + 1) = (copied zs n k).set k (zs.getD k 0) := by
  unfold copied
  rw [gen_set]
  refine gen_congr n _ _ fun j _ => ?_
  by_cases h : j = k
  · subst h; simp
  · rw [if_neg h]
    by_cases h' : j < k
    · rw [if_pos h', if_pos (by omega)]
    · rw [if_neg h', if_neg (by omega)]
theorem copied_start (zs : List Int) (n : Nat) : copied zs n 0 = List.replicate n 0 := by
  unfold copied gen
  simp [List.map_const']
theorem copied_end (zs : List Int) (n : Nat) (h : zs.length = n) : copied zs n n = zs := by
  rw [← gen_list zs 0 n h]
  unfold copied
  refine gen_congr n _ _ fun j hj => ?_
  rw [if_pos hj, gen_list zs 0 n h]

theorem Own.mono {k : IntKind} {e : TypeId} {w : World} {base base' : Nat} {v : Value} {zs : List Int} (h : Own k e w base' v zs) (hb : base ≤ base') : Own k e w base v zs := by
  refine ⟨h.1, ?_⟩
  rcases h.2 with h2 | ⟨g, cap, cur, hv, hg, r⟩
  · exact .inl h2
  · exact .inr ⟨g, cap, cur, hv, by omega, r⟩

/-- A literal slice that has just been laid. -/
theorem rdI_new (w : World) (k : IntKind) (xs : List Int) (cs : Array Value) (e : TypeId) (n : Nat) (hn : xs.length = n) (hc : cs.toList = xs.map (Value.int k)) (hm : n ≤ maxLen) :
    RdI k (w.alloc (.cells cs e)) (some ⟨w.heap.size, 0, none⟩) n n xs := by
  refine ⟨⟨hn, Nat.le_refl _, hm, fun h => by cases h⟩, fun _ => ⟨_, 0, rfl, fun i hi => ?_⟩⟩
  have h := World.ownsRow_lit (base := 0) (size := 1) (e := e) w cs n (Nat.zero_le _) hm (by rw [← Array.length_toList, hc, List.length_map, hn, Nat.mul_one])
  have := World.ownsRow.cellAt h i (by omega)
  rw [Nat.zero_add, this, hc]
  simp [hn, hi]

theorem rdI_nil (w : World) (k : IntKind) : RdI k w none 0 0 [] := ⟨⟨rfl, Nat.le_refl _, by simp [maxLen], fun _ => ⟨rfl, rfl⟩⟩, fun h => by omega⟩

/-- 'append(out, xs...)', out the call's own, xs whatever: nil, empty or not. -/
theorem append_src {P : Program} {w : World} {ops : Array Oper} {rest : List Oper} {o : Oper} {a : Act} {Q : Exit → Act → World → Prop} (hgd : o.guard = none) (s x : Operand) (t : TypeId)
    (ho : o.op = .call { callee := .builtin .append, args := #[s, x], argTypes := #[t, t] })
    (base : Nat) (e : TypeId) (i : TypeInfo) (z : Value) (size bytes : Nat) (ht : P.underlying t = some (.slice e)) (hi : P.info? e = some i) (hz : i.zero = some z)
    (hsize : i.size = size) (hby : i.bytes = bytes) (hzs : z.cells.size = size) (hsz : 0 < size)
    (v : Value) (n : Nat) (xs : List Value) (hs : a.eval s = v) (hown : w.ownsRow base e size v n xs)
    (ad : Option Addr) (m c : Nat) (news : List Value) (hx : a.eval x = .slice ad m c) (hl : news.length = m * size) (hnil : ad = none → m = 0 ∧ c = 0)
    (hnews : ∀ p, ad = some p → ∀ j u, news[j]? = some u → w.cell? (p.add j) = some u) (h1 : ∀ u ∈ news, u.oneCell' = true)
    (h63 : n + m ≤ maxLen) (hbytes : (n + m) * bytes ≤ 140737488355328) (hbase : base ≤ w.heap.size)
    (h : ∀ v' w', w'.ownsRow base e size v' (n + m) (xs ++ news) → w.grownBy w' v.ownBlock → wpList P ops Q rest (a.put o.dst v') w') : wpList P ops Q (o :: rest) a w := by
  cases ad with
  | some p => exact wpList_append_own w hgd s x t ho base e i z size bytes ht hi hz hsize hby hzs hsz v n xs hs hown p m c news hx hl (hnews p rfl) h1 h63 hbytes hbase fun v' w' a b _ => h v' w' a b
  | none =>
    obtain ⟨rfl, rfl⟩ := hnil rfl
    have hn : news = [] := List.eq_nil_of_length_eq_zero (by simpa using hl)
    subst hn
    exact wpList_append_own_none hgd s x t ho base e i size ht hi v n xs hs hown hx (h v w (by simpa using hown) (World.grownBy.refl _ _))

theorem rdI_owns {k : IntKind} {e : TypeId} {w : World} {base : Nat} {a : Option Addr} {n cap : Nat} {zs : List Int} (h : w.ownsRow base e 1 (.slice a n cap) n (zs.map (Value.int k))) (hz : zs.length = n) : RdI k w a n cap zs := by
  subst hz
  obtain ⟨a', cap', hv, hr⟩ := Own.rd (k := k) (e := e) h
  simp only [Value.slice.injEq, true_and] at hv
  obtain ⟨rfl, rfl⟩ := hv
  exact hr

theorem RdI.news {k : IntKind} {w : World} {a : Option Addr} {n cap : Nat} {zs : List Int} (h : RdI k w a n cap zs) :
    ∀ ad, a = some ad → ∀ j u, (zs.map (Value.int k))[j]? = some u → w.cell? (ad.add j) = some u := by
  intro ad had j u hu
  have hj : j < n := by have := (List.getElem?_eq_some_iff.1 hu).1; simpa [h.1.1] using this
  obtain ⟨b, off, e, hc⟩ := h.2 (by omega)
  rw [e] at had
  obtain rfl := Option.some.inj had
  rw [Addr.add_lit, hc j hj]
  rw [← hu, List.getElem?_map]
  have : zs[j]? = some (zs.getD j 0) := by simp [List.getD, h.1.1, hj]
  rw [this]; rfl

/-- Two slices that lie in different blocks. -/
def Apart (v v' : Value) : Prop := ∀ g, v.ownBlock = some g → v'.ownBlock ≠ some g
theorem Apart.symm {v v' : Value} (h : Apart v v') : Apart v' v := fun g h1 h2 => h g h2 h1
theorem Own.keptApart {k : IntKind} {e : TypeId} {w w' : World} {base : Nat} {v v' : Value} {zs : List Int} (h : Own k e w base v zs) (hg : w.grownBy w' v'.ownBlock) (ha : Apart v v') : Own k e w' base v zs := by
  refine Own.kept h hg ?_
  cases hv : v.ownBlock with
  | none => exact .inl rfl
  | some g => exact .inr fun e => ha g hv e.symm
/-- What was owned before and what was made later lie apart. -/
theorem own_apart {k k' : IntKind} {e e' : TypeId} {w w' : World} {base base' : Nat} {v v' : Value} {zs zs' : List Int} (h : Own k e w base v zs) (h' : Own k' e' w' base' v' zs') (hb : w.heap.size ≤ base') : Apart v v' := by
  intro g hv hv'
  have h1 := h.lt g hv
  have h2 := h'.lt g hv'
  omega

theorem owns_shape {w : World} {base : Nat} {e : TypeId} {size : Nat} {v : Value} {n : Nat} {xs : List Value} (h : w.ownsRow base e size v n xs) : ∃ a c, v = .slice a n c := by
  rcases h.2 with ⟨rfl, rfl⟩ | ⟨g, cap, _, rfl, _⟩
  · exact ⟨_, _, rfl⟩
  · exact ⟨_, _, rfl⟩
def lenOf : Value → Int | .slice _ n _ => n | _ => 0

/-- What the frame tells of a slice that came in. -/
theorem rdI_row {k : IntKind} {w : World} {a : Option Addr} {n c : Nat} {zs : List Int}
    (h : (a = none ∧ n = 0 ∧ c = 0 ∧ zs = []) ∨
      ∃ x, a = some x ∧ n ≤ c ∧ c ≤ maxLen ∧ zs.length = c ∧ (∀ i, i < zs.length → w.cell? (x.add i) = some (.int k (zs.getD i 0))) ∧ ∀ n ∈ zs, (Lit.int k n).wf = true) :
    RdI k w a n c (zs.take n) ∧ ∀ z ∈ zs.take n, (Lit.int k z).wf = true := by
  rcases h with ⟨rfl, rfl, rfl, rfl⟩ | ⟨x, rfl, hl, hm, hz, hc, hw⟩
  · exact ⟨rdI_nil _ _, fun z hz => by simp at hz⟩
  · refine ⟨⟨⟨by simp; omega, hl, hm, fun h => by cases h⟩, fun hn => ?_⟩, fun z hz => hw z (List.mem_of_mem_take hz)⟩
    obtain ⟨b, off, rfl, hb⟩ := ints_at hc (by omega)
    refine ⟨b, off, rfl, fun i hi => ?_⟩
    rw [hb i (by omega)]
    simp [List.getD, hi]

theorem range_bytes {zs : List Int} (h : ∀ z ∈ zs, (Lit.int .u8 z).wf = true) (j : Nat) : 0 ≤ zs.getD j 0 ∧ zs.getD j 0 ≤ 255 := by
  by_cases hj : j < zs.length
  · have := bounds_u8 (h zs[j] (List.getElem_mem hj))
    simpa [List.getD, hj] using this
  · simp [List.getD, hj]

theorem Try.infoU8 : (Try.prog.info? 5).map (fun i => (i.zero, i.size, i.bytes)) = some (some (.int .u8 0), 1, 1) := by kernel_rfl

theorem below_drewN {B : Nat} {a w : World} (h : Below B a w) (n : Nat) : Below B a (w.drewN n) := h.trans ⟨rfl, rfl, rfl, Nat.le_refl _, fun _ _ => rfl⟩
theorem grown_trans {a b c : World} {row : Option Nat} (h : a.grownBy b row) (k : b.grownBy c row) : a.grownBy c row :=
  ⟨k.os.trans h.os, k.tape.trans h.tape, k.output.trans h.output, Nat.le_trans h.size k.size, fun i hi hne => (k.block i (Nat.lt_of_lt_of_le hi h.size) hne).trans (h.block i hi hne)⟩

theorem own_head {w : World} {base : Nat} {e : TypeId} {size : Nat} {a : Option Addr} {n cap : Nat} {xs : List Value} (h : w.ownsRow base e size (.slice a n cap) n xs) (hn : 0 < n) : ∃ g, a = some ⟨g, 0, none⟩ := by
  rcases h.2 with ⟨_, h0⟩ | ⟨g, cap, cur, hv, _⟩
  · omega
  · simp only [Value.slice.injEq] at hv
    exact ⟨g, hv.1⟩


theorem quo_le (n m : Int) (hn : 0 ≤ n) (hm : 1 ≤ m) : 0 ≤ n / m ∧ n / m ≤ n :=
  ⟨Int.ediv_nonneg hn (by omega), Int.ediv_le_self m hn⟩
theorem up_frac (n m : Int) (_ : 1 ≤ n) (hm : 1 ≤ m) (h : 0 < n % m) : (n - 1) / m = n / m := by
  have e := Int.mul_ediv_add_emod n m
  have hl := Int.emod_lt_of_pos n (b := m) (by omega)
  have : n - 1 = (n % m - 1) + m * (n / m) := by omega
  rw [this, Int.add_mul_ediv_left _ _ (by omega : m ≠ 0), Int.ediv_eq_zero_of_lt (by omega) (by omega)]
  omega
theorem up_whole (n m : Int) (_ : 1 ≤ n) (hm : 1 ≤ m) (h : ¬ 0 < n % m) : (n - 1) / m + 1 = n / m := by
  have e := Int.mul_ediv_add_emod n m
  have hl := Int.emod_nonneg n (b := m) (by omega)
  have : n - 1 = (m - 1) + m * (n / m - 1) := by
    rw [Int.mul_sub]; omega
  rw [this, Int.add_mul_ediv_left _ _ (by omega : m ≠ 0), Int.ediv_eq_zero_of_lt (by omega) (by omega)]
  omega

/-! ### blocks whose cells and marks are known -/
theorem grown_cell {W w1 : World} {g b : Nat} (h : W.grownBy w1 (some g)) (hb : b < W.heap.size) (hne : b ≠ g) : ∀ o, w1.cell? ⟨b, o, none⟩ = W.cell? ⟨b, o, none⟩ :=
  fun o => World.cell?_of_block (a := ⟨b, o, none⟩) (h.block b hb (fun e => hne (by simpa using e)))
theorem grown_frozen {W w1 : World} {g b : Nat} (h : W.grownBy w1 (some g)) (hb : b < W.heap.size) (hne : b ≠ g) : ∀ o, w1.frozen? ⟨b, o, none⟩ = W.frozen? ⟨b, o, none⟩ :=
  fun o => World.frozen?_of_block (a := ⟨b, o, none⟩) (h.block b hb (fun e => hne (by simpa using e)))
/-- A block that lies in a world stays as it is in a later one: a call that writes its own block and new ones alone. -/
theorem blk_keep {W w1 : World} {g b : Nat} (h : W.grownBy w1 (some g)) (hb : b < W.heap.size) (hne : b ≠ g) (f : Nat → Option Value) (m : Nat → Bool)
    (hk : (∀ o, W.cell? ⟨b, o, none⟩ = f o) ∧ (∀ o, W.frozen? ⟨b, o, none⟩ = m o)) : (∀ o, w1.cell? ⟨b, o, none⟩ = f o) ∧ (∀ o, w1.frozen? ⟨b, o, none⟩ = m o) :=
  ⟨fun o => (grown_cell h hb hne o).trans (hk.1 o), fun o => (grown_frozen h hb hne o).trans (hk.2 o)⟩
theorem blk_alloc {W : World} {b : Nat} (O : Obj) (hb : b < W.heap.size) (f : Nat → Option Value) (m : Nat → Bool)
    (hk : (∀ o, W.cell? ⟨b, o, none⟩ = f o) ∧ (∀ o, W.frozen? ⟨b, o, none⟩ = m o)) : (∀ o, (W.alloc O).cell? ⟨b, o, none⟩ = f o) ∧ (∀ o, (W.alloc O).frozen? ⟨b, o, none⟩ = m o) :=
  ⟨fun o => (World.cell?_alloc_lt W O ⟨b, o, none⟩ hb).trans (hk.1 o), fun o => (World.frozen?_alloc_old W O ⟨b, o, none⟩ (Nat.ne_of_lt hb)).trans (hk.2 o)⟩
theorem blk_new (W : World) (cs : Array Value) (t : TypeId) : (∀ o, (W.alloc (.cells cs t)).cell? ⟨W.heap.size, o, none⟩ = cs[o]?) ∧ (∀ o, (W.alloc (.cells cs t)).frozen? ⟨W.heap.size, o, none⟩ = false) :=
  ⟨fun o => by rw [cell_of_row _ _ o _ _ _ (heap_alloc_new W (.cells cs t))], fun o => frozen_of_row _ _ o _ _ (heap_alloc_new W (.cells cs t))⟩

theorem blk_new1 (W : World) (O : Obj) (cs : Array Value) (t : TypeId) : (∀ o, ((W.alloc O).alloc (.cells cs t)).cell? ⟨W.heap.size + 1, o, none⟩ = cs[o]?) ∧ (∀ o, ((W.alloc O).alloc (.cells cs t)).frozen? ⟨W.heap.size + 1, o, none⟩ = false) := by
  have h := blk_new (W.alloc O) cs t
  rw [show (W.alloc O).heap.size = W.heap.size + 1 by simp] at h
  exact h
theorem below_keep {W w1 : World} {b B : Nat} (h : Below B W w1) (hb : b < B) (f : Nat → Option Value) (m : Nat → Bool)
    (hk : (∀ o, W.cell? ⟨b, o, none⟩ = f o) ∧ (∀ o, W.frozen? ⟨b, o, none⟩ = m o)) : (∀ o, w1.cell? ⟨b, o, none⟩ = f o) ∧ (∀ o, w1.frozen? ⟨b, o, none⟩ = m o) :=
  ⟨fun o => (h.cell (p := ⟨b, o, none⟩) hb).trans (hk.1 o), fun o => (h.frozen (p := ⟨b, o, none⟩) hb).trans (hk.2 o)⟩
/-- All old cells and all old marks read as before. -/
theorem bcell {W w1 : World} (hb : Below W.heap.size W w1) : (∀ b o, b < W.heap.size → w1.cell? ⟨b, o, none⟩ = W.cell? ⟨b, o, none⟩) ∧ (∀ b o, b < W.heap.size → w1.frozen? ⟨b, o, none⟩ = W.frozen? ⟨b, o, none⟩) :=
  ⟨fun b o h => hb.cell (p := ⟨b, o, none⟩) h, fun b o h => hb.frozen (p := ⟨b, o, none⟩) h⟩
theorem blk_new_drew (W : World) (cs : Array Value) (t : TypeId) : (∀ o, (W.alloc (.cells cs t)).drew.cell? ⟨W.heap.size, o, none⟩ = cs[o]?) ∧ (∀ o, (W.alloc (.cells cs t)).drew.frozen? ⟨W.heap.size, o, none⟩ = false) := blk_new W cs t
theorem new_below (W : World) (o : Obj) : Below W.heap.size W (W.alloc o) := (Below.refl _ _).alloc (Nat.le_refl _) _
theorem drew_below (W : World) : Below W.heap.size W W.drew := (Below.refl _ _).drew

end Go.Proofs.Ytnebhbnogmhbgaa
