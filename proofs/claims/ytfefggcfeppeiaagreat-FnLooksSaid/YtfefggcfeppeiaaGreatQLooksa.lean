/- Texts of this seat laid together: Base, Row, In, MinMax, Box, Box2, Keep, Hilbert, Curve, Quiet, Curve2, Item, ItemS, ItemM, Entry, EntryS, EntryM, Apart, Draw, Node, Slice, LeafOf. -/
import Derived.Test.YtfefggcfeppeiaaGreatChecked
import Derived.WalkKit
import Derived.ProofKit
import Derived.OpenShut
import Derived.RegionTactic
import Derived.Deep.QuietTactic
import Derived.BigQuiet
import Derived.WalkLawsBesides
import Derived.WalkSpells
import Derived.Lib.Hide
import Derived.Laws.AppendOwnNone
import Derived.Deep.RegionHeld3
import Derived.Deep.DeepCutAuto
import Derived.Below
import Derived.Lib.QuietBelow
import Derived.Deep.RegionWith
import Derived.Deep.AppendLies
import Derived.Laws.OwnMore
import Derived.Deep.RegionLaw
import Derived.Deep.DrawnRows

/- Slices of one-cell integers: what is read and what is owned; lists told by their places; append. -/
namespace Go.Proofs.YtfefggcfeppeiaaGreat
open Go.RowKit

/-- A slice value that reads as the numbers zs. -/
def RdI (k : IntKind) (w : World) (a : Option Addr) (n cap : Nat) (zs : List Int) : Prop :=
  (zs.length = n ∧ n ≤ cap ∧ cap ≤ maxLen ∧ (a = none → n = 0 ∧ cap = 0)) ∧ (0 < n → ∃ b off, a = some ⟨b, off, none⟩ ∧ ∀ i, i < n → w.cell? ⟨b, off + i, none⟩ = some (.int k (zs.getD i 0)))

def Own (k : IntKind) (e : TypeId) (w : World) (base : Nat) (v : Value) (zs : List Int) : Prop :=
  w.ownsRow base e 1 v zs.length (zs.map (Value.int k))

theorem Own.rd {k : IntKind} {e : TypeId} {w : World} {base : Nat} {v : Value} {zs : List Int} (h : Own k e w base v zs) :
    ∃ a cap, v = .slice a zs.length cap ∧ RdI k w a zs.length cap zs := by
  rcases h.2 with ⟨rfl, hn⟩ | ⟨g, cap, cur, rfl, hb, hh, r⟩
  · exact ⟨none, 0, by rw [hn], ⟨rfl, by omega, by simp [maxLen], fun _ => ⟨hn, rfl⟩⟩, fun h => by omega⟩
  · refine ⟨_, cap, rfl, ⟨rfl, r.1, r.2.1, fun h => by cases h⟩, fun _ => ⟨g, 0, rfl, fun i hi => ?_⟩⟩
    have := World.ownsRow.cellAt h i (by omega)
    rw [Nat.zero_add, this]
    simp [hi]

theorem RdI.below {k : IntKind} {w w' : World} {a : Option Addr} {n cap : Nat} {zs : List Int} (h : RdI k w a n cap zs) (hB : Below w.heap.size w w') : RdI k w' a n cap zs := by
  refine ⟨h.1, fun hn => ?_⟩
  obtain ⟨b, off, e, hc⟩ := h.2 hn
  refine ⟨b, off, e, fun i hi => ?_⟩
  have hlt : b < w.heap.size := World.block_lt_of_cell? w ⟨b, off + i, none⟩ (hc i hi)
  rw [hB.cell (p := ⟨b, off + i, none⟩) hlt]
  exact hc i hi

theorem Own.kept {k : IntKind} {e : TypeId} {w w' : World} {base : Nat} {v : Value} {zs : List Int} {row : Option Nat} (h : Own k e w base v zs) (hg : w.grownBy w' row)
    (hne : v.ownBlock = none ∨ v.ownBlock ≠ row) : Own k e w' base v zs := World.ownsRow.kept h hg hne

theorem Below.toGrown {w w' : World} (h : Below w.heap.size w w') (row : Option Nat) : w.grownBy w' row :=
  ⟨h.os, h.tape, h.output, h.size, fun k hk _ => h.block k hk⟩

theorem Own.below {k : IntKind} {e : TypeId} {w w' : World} {base : Nat} {v : Value} {zs : List Int} (h : Own k e w base v zs) (hB : Below w.heap.size w w') : Own k e w' base v zs :=
  Own.kept h (Below.toGrown hB none) (by cases v.ownBlock <;> simp)

theorem grownNone_below {w w' : World} (h : w.grownBy w' none) : Below w.heap.size w w' := ⟨h.os, h.tape, h.output, h.size, fun k hk => h.block k hk (by simp)⟩

/-! ### lists told by their places -/
def gen {α : Type} (n : Nat) (f : Nat → α) : List α := (List.range n).map f
theorem gen_length {α : Type} (n : Nat) (f : Nat → α) : (gen n f).length = n := by simp [gen]
theorem gen_at {α : Type} (n : Nat) (f : Nat → α) (k : Nat) (h : k < n) : (gen n f)[k]? = some (f k) := by simp [gen, h]
theorem gen_getD {α : Type} (n : Nat) (f : Nat → α) (d : α) (k : Nat) (h : k < n) : (gen n f).getD k d = f k := by simp [gen, List.getD, h]
theorem gen_congr {α : Type} (n : Nat) (f g : Nat → α) (h : ∀ j, j < n → f j = g j) : gen n f = gen n g := by
  unfold gen
  exact List.map_congr_left fun j hj => h j (List.mem_range.1 hj)
theorem gen_set {α : Type} (n : Nat) (f : Nat → α) (k : Nat) (x : α) : (gen n f).set k x = gen n (fun j => if j = k then x else f j) := by
  apply List.ext_getElem?
  intro j
  rw [List.getElem?_set]
  by_cases hj : j < n
  · rw [gen_at n _ j hj, gen_at n _ j hj, gen_length]
    by_cases h : k = j
    · subst h; simp [hj]
    · rw [if_neg h, if_neg (fun e => h e.symm)]
  · have h1 : (gen n f)[j]? = none := by simp [gen]; omega
    have h2 : (gen n (fun j => if j = k then x else f j))[j]? = none := by simp [gen]; omega
    rw [h1, h2, gen_length]
    by_cases h : k = j
    · subst h; simp [hj]
    · rw [if_neg h]
theorem gen_list {α : Type} (zs : List α) (d : α) (n : Nat) (h : zs.length = n) : gen n (fun j => zs.getD j d) = zs := by
  subst h
  apply List.ext_getElem?
  intro j
  by_cases hj : j < zs.length
  · rw [gen_at _ _ j hj]; simp [List.getD, hj]
  · have h1 : (gen zs.length (fun j => zs.getD j d))[j]? = none := by simp [gen]; omega
    rw [h1]; simp; omega

/-- The first k of zs, then zeros, n in all. -/
def copied (zs : List Int) (n k : Nat) : List Int := gen n fun j => if j < k then zs.getD j 0 else 0
theorem copied_at (zs : List Int) (n k : Nat) (hk : k < n) : (copied zs n k)[k]? = some 0 := by
  unfold copied
  rw [gen_at n _ k hk]; simp
theorem copied_set (zs : List Int) (n k : Nat) : copied zs n (k + 1) = (copied zs n k).set k (zs.getD k 0) := by
  unfold copied
  rw [gen_set]
  refine gen_congr n _ _ fun j _ => ?_
  by_cases h : j = k
  · subst h; simp
  · rw [if_neg h]
    by_cases h' : j < k
    · rw [if_pos h', if_pos (by omega)]
    · rw [if_neg h', if_neg (by omega)]
theorem copied_start (zs : List Int) (n : Nat) : copied zs n 0 = List.replicate n 0 := by
  unfold copied gen
  simp [List.map_const']
theorem copied_end (zs : List Int) (n : Nat) (h : zs.length = n) : copied zs n n = zs := by
  rw [← gen_list zs 0 n h]
  unfold copied
  refine gen_congr n _ _ fun j hj => ?_
  rw [if_pos hj, gen_list zs 0 n h]

theorem Own.mono {k : IntKind} {e : TypeId} {w : World} {base base' : Nat} {v : Value} {zs : List Int} (h : Own k e w base' v zs) (hb : base ≤ base') : Own k e w base v zs := by
  refine ⟨h.1, ?_⟩
  rcases h.2 with h2 | ⟨g, cap, cur, hv, hg, r⟩
  · exact .inl h2
  · exact .inr ⟨g, cap, cur, hv, by omega, r⟩

/-- A literal slice that has just been laid. -/
theorem rdI_new (w : World) (k : IntKind) (xs : List Int) (cs : Array Value) (e : TypeId) (n : Nat) (hn : xs.length = n) (hc : cs.toList = xs.map (Value.int k)) (hm : n ≤ maxLen) :
    RdI k (w.alloc (.cells cs e)) (some ⟨w.heap.size, 0, none⟩) n n xs := by
  refine ⟨⟨hn, Nat.le_refl _, hm, fun h => by cases h⟩, fun _ => ⟨_, 0, rfl, fun i hi => ?_⟩⟩
  have h := World.ownsRow_lit (base := 0) (size := 1) (e := e) w cs n (Nat.zero_le _) hm (by rw [← Array.length_toList, hc, List.length_map, hn, Nat.mul_one])
  have := World.ownsRow.cellAt h i (by omega)
  rw [Nat.zero_add, this, hc]
  simp [hn, hi]

theorem rdI_nil (w : World) (k : IntKind) : RdI k w none 0 0 [] := ⟨⟨rfl, Nat.le_refl _, by simp [maxLen], fun _ => ⟨rfl, rfl⟩⟩, fun h => by omega⟩

/-- 'append(out, xs...)', out the call's own, xs whatever: nil, empty or not. -/
theorem append_src {P : Program} {w : World} {ops : Array Oper} {rest : List Oper} {o : Oper} {a : Act} {Q : Exit → Act → World → Prop} (hgd : o.guard = none) (s x : Operand) (t : TypeId)
    (ho : o.op = .call { callee := .builtin .append, args := #[s, x], argTypes := #[t, t] })
    (base : Nat) (e : TypeId) (i : TypeInfo) (z : Value) (size bytes : Nat) (ht : P.underlying t = some (.slice e)) (hi : P.info? e = some i) (hz : i.zero = some z)
    (hsize : i.size = size) (hby : i.bytes = bytes) (hzs : z.cells.size = size) (hsz : 0 < size)
    (v : Value) (n : Nat) (xs : List Value) (hs : a.eval s = v) (hown : w.ownsRow base e size v n xs)
    (ad : Option Addr) (m c : Nat) (news : List Value) (hx : a.eval x = .slice ad m c) (hl : news.length = m * size) (hnil : ad = none → m = 0 ∧ c = 0)
    (hnews : ∀ p, ad = some p → ∀ j u, news[j]? = some u → w.cell? (p.add j) = some u) (h1 : ∀ u ∈ news, u.oneCell' = true)
    (h63 : n + m ≤ maxLen) (hbytes : (n + m) * bytes ≤ 140737488355328) (hbase : base ≤ w.heap.size)
    (h : ∀ v' w', w'.ownsRow base e size v' (n + m) (xs ++ news) → w.grownBy w' v.ownBlock → wpList P ops Q rest (a.put o.dst v') w') : wpList P ops Q (o :: rest) a w := by
  cases ad with
  | some p => exact wpList_append_own w hgd s x t ho base e i z size bytes ht hi hz hsize hby hzs hsz v n xs hs hown p m c news hx hl (hnews p rfl) h1 h63 hbytes hbase fun v' w' a b _ => h v' w' a b
  | none =>
    obtain ⟨rfl, rfl⟩ := hnil rfl
    have hn : news = [] := List.eq_nil_of_length_eq_zero (by simpa using hl)
    subst hn
    exact wpList_append_own_none hgd s x t ho base e i size ht hi v n xs hs hown hx (h v w (by simpa using hown) (World.grownBy.refl _ _))

theorem rdI_owns {k : IntKind} {e : TypeId} {w : World} {base : Nat} {a : Option Addr} {n cap : Nat} {zs : List Int} (h : w.ownsRow base e 1 (.slice a n cap) n (zs.map (Value.int k))) (hz : zs.length = n) : RdI k w a n cap zs := by
  subst hz
  obtain ⟨a', cap', hv, hr⟩ := Own.rd (k := k) (e := e) h
  simp only [Value.slice.injEq, true_and] at hv
  obtain ⟨rfl, rfl⟩ := hv
  exact hr

theorem RdI.news {k : IntKind} {w : World} {a : Option Addr} {n cap : Nat} {zs : List Int} (h : RdI k w a n cap zs) :
    ∀ ad, a = some ad → ∀ j u, (zs.map (Value.int k))[j]? = some u → w.cell? (ad.add j) = some u := by
  intro ad had j u hu
  have hj : j < n := by have := (List.getElem?_eq_some_iff.1 hu).1; simpa [h.1.1] using this
  obtain ⟨b, off, e, hc⟩ := h.2 (by omega)
  rw [e] at had
  obtain rfl := Option.some.inj had
  rw [Addr.add_lit, hc j hj]
  rw [← hu, List.getElem?_map]
  have : zs[j]? = some (zs.getD j 0) := by simp [List.getD, h.1.1, hj]
  rw [this]; rfl

/-- Two slices that lie in different blocks. -/
def Apart (v v' : Value) : Prop := ∀ g, v.ownBlock = some g → v'.ownBlock ≠ some g
theorem Apart.symm {v v' : Value} (h : Apart v v') : Apart v' v := fun g h1 h2 => h g h2 h1
theorem Own.keptApart {k : IntKind} {e : TypeId} {w w' : World} {base : Nat} {v v' : Value} {zs : List Int} (h : Own k e w base v zs) (hg : w.grownBy w' v'.ownBlock) (ha : Apart v v') : Own k e w' base v zs := by
  refine Own.kept h hg ?_
  cases hv : v.ownBlock with
  | none => exact .inl rfl
  | some g => exact .inr fun e => ha g hv e.symm
/-- What was owned before and what was made later lie apart. -/
theorem own_apart {k k' : IntKind} {e e' : TypeId} {w w' : World} {base base' : Nat} {v v' : Value} {zs zs' : List Int} (h : Own k e w base v zs) (h' : Own k' e' w' base' v' zs') (hb : w.heap.size ≤ base') : Apart v v' := by
  intro g hv hv'
  have h1 := h.lt g hv
  have h2 := h'.lt g hv'
  omega

theorem owns_shape {w : World} {base : Nat} {e : TypeId} {size : Nat} {v : Value} {n : Nat} {xs : List Value} (h : w.ownsRow base e size v n xs) : ∃ a c, v = .slice a n c := by
  rcases h.2 with ⟨rfl, rfl⟩ | ⟨g, cap, _, rfl, _⟩
  · exact ⟨_, _, rfl⟩
  · exact ⟨_, _, rfl⟩
def lenOf : Value → Int | .slice _ n _ => n | _ => 0

/-- What the frame tells of a slice that came in. -/
theorem rdI_row {k : IntKind} {w : World} {a : Option Addr} {n c : Nat} {zs : List Int}
    (h : (a = none ∧ n = 0 ∧ c = 0 ∧ zs = []) ∨
      ∃ x, a = some x ∧ n ≤ c ∧ c ≤ maxLen ∧ zs.length = c ∧ (∀ i, i < zs.length → w.cell? (x.add i) = some (.int k (zs.getD i 0))) ∧ ∀ n ∈ zs, (Lit.int k n).wf = true) :
    RdI k w a n c (zs.take n) ∧ ∀ z ∈ zs.take n, (Lit.int k z).wf = true := by
  rcases h with ⟨rfl, rfl, rfl, rfl⟩ | ⟨x, rfl, hl, hm, hz, hc, hw⟩
  · exact ⟨rdI_nil _ _, fun z hz => by simp at hz⟩
  · refine ⟨⟨⟨by simp; omega, hl, hm, fun h => by cases h⟩, fun hn => ?_⟩, fun z hz => hw z (List.mem_of_mem_take hz)⟩
    obtain ⟨b, off, rfl, hb⟩ := ints_at hc (by omega)
    refine ⟨b, off, rfl, fun i hi => ?_⟩
    rw [hb i (by omega)]
    simp [List.getD, hi]

theorem range_bytes {zs : List Int} (h : ∀ z ∈ zs, (Lit.int .u8 z).wf = true) (j : Nat) : 0 ≤ zs.getD j 0 ∧ zs.getD j 0 ≤ 255 := by
  by_cases hj : j < zs.length
  · have := bounds_u8 (h zs[j] (List.getElem_mem hj))
    simpa [List.getD, hj] using this
  · simp [List.getD, hj]

theorem Tryz.infoU8 : (Tryz.prog.info? 5).map (fun i => (i.zero, i.size, i.bytes)) = some (some (.int .u8 0), 1, 1) := by kernel_rfl

theorem below_drewN {B : Nat} {a w : World} (h : Below B a w) (n : Nat) : Below B a (w.drewN n) := h.trans ⟨rfl, rfl, rfl, Nat.le_refl _, fun _ _ => rfl⟩
theorem grown_trans {a b c : World} {row : Option Nat} (h : a.grownBy b row) (k : b.grownBy c row) : a.grownBy c row :=
  ⟨k.os.trans h.os, k.tape.trans h.tape, k.output.trans h.output, Nat.le_trans h.size k.size, fun i hi hne => (k.block i (Nat.lt_of_lt_of_le hi h.size) hne).trans (h.block i hi hne)⟩

theorem own_head {w : World} {base : Nat} {e : TypeId} {size : Nat} {a : Option Addr} {n cap : Nat} {xs : List Value} (h : w.ownsRow base e size (.slice a n cap) n xs) (hn : 0 < n) : ∃ g, a = some ⟨g, 0, none⟩ := by
  rcases h.2 with ⟨_, h0⟩ | ⟨g, cap, cur, hv, _⟩
  · omega
  · simp only [Value.slice.injEq] at hv
    exact ⟨g, hv.1⟩


theorem quo_le (n m : Int) (hn : 0 ≤ n) (hm : 1 ≤ m) : 0 ≤ n / m ∧ n / m ≤ n :=
  ⟨Int.ediv_nonneg hn (by omega), Int.ediv_le_self m hn⟩
theorem up_frac (n m : Int) (_ : 1 ≤ n) (hm : 1 ≤ m) (h : 0 < n % m) : (n - 1) / m = n / m := by
  have e := Int.mul_ediv_add_emod n m
  have hl := Int.emod_lt_of_pos n (b := m) (by omega)
  have : n - 1 = (n % m - 1) + m * (n / m) := by omega
  rw [this, Int.add_mul_ediv_left _ _ (by omega : m ≠ 0), Int.ediv_eq_zero_of_lt (by omega) (by omega)]
  omega
theorem up_whole (n m : Int) (_ : 1 ≤ n) (hm : 1 ≤ m) (h : ¬ 0 < n % m) : (n - 1) / m + 1 = n / m := by
  have e := Int.mul_ediv_add_emod n m
  have hl := Int.emod_nonneg n (b := m) (by omega)
  have : n - 1 = (m - 1) + m * (n / m - 1) := by
    rw [Int.mul_sub]; omega
  rw [this, Int.add_mul_ediv_left _ _ (by omega : m ≠ 0), Int.ediv_eq_zero_of_lt (by omega) (by omega)]
  omega

/-! ### blocks whose cells and marks are known -/
theorem grown_cell {W w1 : World} {g b : Nat} (h : W.grownBy w1 (some g)) (hb : b < W.heap.size) (hne : b ≠ g) : ∀ o, w1.cell? ⟨b, o, none⟩ = W.cell? ⟨b, o, none⟩ :=
  fun o => World.cell?_of_block (a := ⟨b, o, none⟩) (h.block b hb (fun e => hne (by simpa using e)))
theorem grown_frozen {W w1 : World} {g b : Nat} (h : W.grownBy w1 (some g)) (hb : b < W.heap.size) (hne : b ≠ g) : ∀ o, w1.frozen? ⟨b, o, none⟩ = W.frozen? ⟨b, o, none⟩ :=
  fun o => World.frozen?_of_block (a := ⟨b, o, none⟩) (h.block b hb (fun e => hne (by simpa using e)))
/-- A block that lies in a world stays as it is in a later one: a call that writes its own block and new ones alone. -/
theorem blk_keep {W w1 : World} {g b : Nat} (h : W.grownBy w1 (some g)) (hb : b < W.heap.size) (hne : b ≠ g) (f : Nat → Option Value) (m : Nat → Bool)
    (hk : (∀ o, W.cell? ⟨b, o, none⟩ = f o) ∧ (∀ o, W.frozen? ⟨b, o, none⟩ = m o)) : (∀ o, w1.cell? ⟨b, o, none⟩ = f o) ∧ (∀ o, w1.frozen? ⟨b, o, none⟩ = m o) :=
  ⟨fun o => (grown_cell h hb hne o).trans (hk.1 o), fun o => (grown_frozen h hb hne o).trans (hk.2 o)⟩
theorem blk_alloc {W : World} {b : Nat} (O : Obj) (hb : b < W.heap.size) (f : Nat → Option Value) (m : Nat → Bool)
    (hk : (∀ o, W.cell? ⟨b, o, none⟩ = f o) ∧ (∀ o, W.frozen? ⟨b, o, none⟩ = m o)) : (∀ o, (W.alloc O).cell? ⟨b, o, none⟩ = f o) ∧ (∀ o, (W.alloc O).frozen? ⟨b, o, none⟩ = m o) :=
  ⟨fun o => (World.cell?_alloc_lt W O ⟨b, o, none⟩ hb).trans (hk.1 o), fun o => (World.frozen?_alloc_old W O ⟨b, o, none⟩ (Nat.ne_of_lt hb)).trans (hk.2 o)⟩
theorem blk_new (W : World) (cs : Array Value) (t : TypeId) : (∀ o, (W.alloc (.cells cs t)).cell? ⟨W.heap.size, o, none⟩ = cs[o]?) ∧ (∀ o, (W.alloc (.cells cs t)).frozen? ⟨W.heap.size, o, none⟩ = false) :=
  ⟨fun o => by rw [cell_of_row _ _ o _ _ _ (heap_alloc_new W (.cells cs t))], fun o => frozen_of_row _ _ o _ _ (heap_alloc_new W (.cells cs t))⟩

theorem blk_new1 (W : World) (O : Obj) (cs : Array Value) (t : TypeId) : (∀ o, ((W.alloc O).alloc (.cells cs t)).cell? ⟨W.heap.size + 1, o, none⟩ = cs[o]?) ∧ (∀ o, ((W.alloc O).alloc (.cells cs t)).frozen? ⟨W.heap.size + 1, o, none⟩ = false) := by
  have h := blk_new (W.alloc O) cs t
  rw [show (W.alloc O).heap.size = W.heap.size + 1 by simp] at h
  exact h
theorem below_keep {W w1 : World} {b B : Nat} (h : Below B W w1) (hb : b < B) (f : Nat → Option Value) (m : Nat → Bool)
    (hk : (∀ o, W.cell? ⟨b, o, none⟩ = f o) ∧ (∀ o, W.frozen? ⟨b, o, none⟩ = m o)) : (∀ o, w1.cell? ⟨b, o, none⟩ = f o) ∧ (∀ o, w1.frozen? ⟨b, o, none⟩ = m o) :=
  ⟨fun o => (h.cell (p := ⟨b, o, none⟩) hb).trans (hk.1 o), fun o => (h.frozen (p := ⟨b, o, none⟩) hb).trans (hk.2 o)⟩
/-- All old cells and all old marks read as before. -/
theorem bcell {W w1 : World} (hb : Below W.heap.size W w1) : (∀ b o, b < W.heap.size → w1.cell? ⟨b, o, none⟩ = W.cell? ⟨b, o, none⟩) ∧ (∀ b o, b < W.heap.size → w1.frozen? ⟨b, o, none⟩ = W.frozen? ⟨b, o, none⟩) :=
  ⟨fun b o h => hb.cell (p := ⟨b, o, none⟩) h, fun b o h => hb.frozen (p := ⟨b, o, none⟩) h⟩
theorem blk_new_drew (W : World) (cs : Array Value) (t : TypeId) : (∀ o, (W.alloc (.cells cs t)).drew.cell? ⟨W.heap.size, o, none⟩ = cs[o]?) ∧ (∀ o, (W.alloc (.cells cs t)).drew.frozen? ⟨W.heap.size, o, none⟩ = false) := blk_new W cs t
theorem new_below (W : World) (o : Obj) : Below W.heap.size W (W.alloc o) := (Below.refl _ _).alloc (Nat.le_refl _) _
theorem drew_below (W : World) : Below W.heap.size W W.drew := (Below.refl _ _).drew

end Go.Proofs.YtfefggcfeppeiaaGreat

/- Slices whose elements take several cells: what is read, what is owned. -/
namespace Go.Proofs.YtfefggcfeppeiaaGreat
open Go.RowKit

/-- How an element lies in memory: its cells, sz of them. -/
structure Lay (α : Type) where
  sz : Nat
  cells : α → List Value
  len : ∀ x, (cells x).length = sz
  pos : 0 < sz
  one : ∀ x, ∀ u ∈ cells x, u.oneCell' = true

theorem flat_len {α : Type} (L : Lay α) (xs : List α) : (xs.flatMap L.cells).length = xs.length * L.sz := by
  induction xs with
  | nil => simp
  | cons x l ih => simp [L.len, ih, Nat.succ_mul, Nat.add_comm]
theorem flat_at {α : Type} (L : Lay α) (xs : List α) (i j : Nat) (hj : j < L.sz) : (xs.flatMap L.cells)[i * L.sz + j]? = (xs[i]?).bind fun x => (L.cells x)[j]? := by
  induction xs generalizing i with
  | nil => simp
  | cons x l ih =>
    rw [List.flatMap_cons]
    cases i with
    | zero => rw [Nat.zero_mul, Nat.zero_add, List.getElem?_append_left (by rw [L.len]; exact hj)]; rfl
    | succ i =>
      rw [List.getElem?_append_right (by rw [L.len, Nat.succ_mul]; omega), L.len, show (i + 1) * L.sz + j - L.sz = i * L.sz + j by rw [Nat.succ_mul]; omega, ih]
      rfl
theorem flat_one {α : Type} (L : Lay α) (xs : List α) : ∀ u ∈ xs.flatMap L.cells, u.oneCell' = true := by
  intro u hu
  obtain ⟨x, _, h⟩ := List.mem_flatMap.1 hu
  exact L.one x u h

/-- A slice value that reads as the elements xs. -/
def RdS {α : Type} (L : Lay α) (w : World) (a : Option Addr) (n cap : Nat) (xs : List α) : Prop :=
  (xs.length = n ∧ n ≤ cap ∧ cap ≤ maxLen ∧ (a = none → n = 0 ∧ cap = 0)) ∧ (0 < n → ∃ b off, a = some ⟨b, off, none⟩ ∧ ∀ i x, xs[i]? = some x → ∀ j u, (L.cells x)[j]? = some u → w.cell? ⟨b, off + (i * L.sz + j), none⟩ = some u)

def OwnS {α : Type} (L : Lay α) (e : TypeId) (w : World) (base : Nat) (v : Value) (xs : List α) : Prop := w.ownsRow base e L.sz v xs.length (xs.flatMap L.cells)

section
variable {α : Type} {L : Lay α} {w w' : World} {a : Option Addr} {n cap : Nat} {xs : List α}
theorem RdS.below (h : RdS L w a n cap xs) (hB : Below w.heap.size w w') : RdS L w' a n cap xs := by
  refine ⟨h.1, fun hn => ?_⟩
  obtain ⟨b, off, e, hc⟩ := h.2 hn
  refine ⟨b, off, e, fun i x hi j u hj => ?_⟩
  have := hc i x hi j u hj
  have hlt : b < w.heap.size := World.block_lt_of_cell? w ⟨b, off + (i * L.sz + j), none⟩ this
  rw [hB.cell (p := ⟨b, off + (i * L.sz + j), none⟩) hlt]
  exact this
theorem RdS.lt (h : RdS L w a n cap xs) {b off : Nat} (hn : 0 < n) (ha : a = some ⟨b, off, none⟩) : b < w.heap.size := by
  obtain ⟨b', off', e, hc⟩ := h.2 hn
  rw [ha] at e
  obtain ⟨rfl, rfl⟩ : b = b' ∧ off = off' := by simpa using e
  have hx : xs[0]? = some (xs[0]'(by have := h.1.1; omega)) := List.getElem?_eq_getElem _
  have hu : (L.cells (xs[0]'(by have := h.1.1; omega)))[0]? = some ((L.cells (xs[0]'(by have := h.1.1; omega)))[0]'(by rw [L.len]; exact L.pos)) := List.getElem?_eq_getElem _
  exact World.block_lt_of_cell? w ⟨b, off + (0 * L.sz + 0), none⟩ (hc 0 _ hx 0 _ hu)
theorem rdS_nil (w : World) : RdS L w none 0 0 [] := ⟨⟨rfl, Nat.le_refl _, by simp [maxLen], fun _ => ⟨rfl, rfl⟩⟩, fun h => by omega⟩
/-- An element's cells. -/
theorem RdS.at_ (h : RdS L w a n cap xs) {i : Nat} (hi : i < n) : ∃ b off, a = some ⟨b, off, none⟩ ∧ b < w.heap.size ∧ ∃ x, xs[i]? = some x ∧ ∀ j u, (L.cells x)[j]? = some u → w.cell? ⟨b, off + (i * L.sz + j), none⟩ = some u := by
  obtain ⟨b, off, e, hc⟩ := h.2 (by omega)
  have hx : xs[i]? = some (xs[i]'(by have := h.1.1; omega)) := List.getElem?_eq_getElem _
  exact ⟨b, off, e, h.lt (by omega) e, _, hx, fun j u hj => hc i _ hx j u hj⟩
end

section
variable {α : Type} {L : Lay α} {w w' : World} {e : TypeId} {base : Nat} {v : Value} {xs : List α}
theorem OwnS.rd (h : OwnS L e w base v xs) : ∃ a cap, v = .slice a xs.length cap ∧ RdS L w a xs.length cap xs := by
  have hown := h
  rcases h.2 with ⟨rfl, hn⟩ | ⟨g, cap, cur, rfl, hb, hh, r⟩
  · exact ⟨none, 0, by rw [hn], ⟨rfl, by omega, by simp [maxLen], fun _ => ⟨hn, rfl⟩⟩, fun h => by omega⟩
  · refine ⟨_, cap, rfl, ⟨rfl, r.1, r.2.1, fun h => by cases h⟩, fun _ => ⟨g, 0, rfl, fun i x hi j u hj => ?_⟩⟩
    have hij : i < xs.length := (List.getElem?_eq_some_iff.1 hi).1
    have hjs : j < L.sz := by have := (List.getElem?_eq_some_iff.1 hj).1; rw [L.len] at this; exact this
    have hlt : i * L.sz + j < xs.length * L.sz := by
      have : (i + 1) * L.sz ≤ xs.length * L.sz := Nat.mul_le_mul_right _ hij
      rw [Nat.succ_mul] at this; omega
    rw [Nat.zero_add, World.ownsRow.cellAt hown _ hlt, flat_at L xs i j hjs, hi]
    exact hj
theorem OwnS.kept {row : Option Nat} (h : OwnS L e w base v xs) (hg : w.grownBy w' row) (hne : v.ownBlock = none ∨ v.ownBlock ≠ row) : OwnS L e w' base v xs := World.ownsRow.kept h hg hne
theorem OwnS.below (h : OwnS L e w base v xs) (hB : Below w.heap.size w w') : OwnS L e w' base v xs := OwnS.kept h (Below.toGrown hB none) (by cases v.ownBlock <;> simp)
theorem OwnS.mono {base' : Nat} (h : OwnS L e w base' v xs) (hb : base ≤ base') : OwnS L e w base v xs := by
  refine ⟨h.1, ?_⟩
  rcases h.2 with h2 | ⟨g, cap, cur, hv, hg, r⟩
  · exact .inl h2
  · exact .inr ⟨g, cap, cur, hv, by omega, r⟩
end

/-- A rectangle. -/
structure Bx where
  x0 : Int
  y0 : Int
  x1 : Int
  y1 : Int

def bxLay : Lay Bx := ⟨4, fun b => [.int .i64 b.x0, .int .i64 b.y0, .int .i64 b.x1, .int .i64 b.y1], fun _ => rfl, by decide, fun x u hu => by simp at hu; rcases hu with rfl | rfl | rfl | rfl <;> rfl⟩

/-- A rectangle's four cells in a slice. -/
theorem rdBx_at {w : World} {a : Option Addr} {n cap i : Nat} {xs : List Bx} (h : RdS bxLay w a n cap xs) (hi : i < n) :
    ∃ b off x, a = some ⟨b, off, none⟩ ∧ b < w.heap.size ∧ xs[i]? = some x ∧ w.cell? ⟨b, off + i * 4, none⟩ = some (.int .i64 x.x0) ∧ w.cell? ⟨b, off + i * 4 + 1, none⟩ = some (.int .i64 x.y0) ∧
      w.cell? ⟨b, off + i * 4 + 2, none⟩ = some (.int .i64 x.x1) ∧ w.cell? ⟨b, off + i * 4 + 3, none⟩ = some (.int .i64 x.y1) := by
  obtain ⟨b, off, e, hlt, x, hx, hc⟩ := h.at_ hi
  exact ⟨b, off, x, e, hlt, hx, hc 0 _ rfl, hc 1 _ rfl, hc 2 _ rfl, hc 3 _ rfl⟩

end Go.Proofs.YtfefggcfeppeiaaGreat

/- The model's l1In: is a number within bounds. -/
namespace Go.Proofs.YtfefggcfeppeiaaGreat
open Go.RowKit

set_option maxRecDepth 100000 in
set_option maxHeartbeats 400000 in
theorem l1In_yes (x a b : Int) (w : World) (h : a ≤ x) (h2 : x ≤ b) : Calls Tryz.prog 46 #[.int .i64 x, .int .i64 a, .int .i64 b] w fun e w' => e = .returned (.bool true) ∧ w = w' := by
  go_enter Tryz.func46, Tryz.ntmps46
  go_wp2
  go_ret
  exact ⟨rfl, rfl⟩
set_option maxRecDepth 100000 in
set_option maxHeartbeats 400000 in
theorem l1In_no (x a b : Int) (w : World) (h : ¬ (a ≤ x ∧ x ≤ b)) : Calls Tryz.prog 46 #[.int .i64 x, .int .i64 a, .int .i64 b] w fun e w' => e = .returned (.bool false) ∧ w = w' := by
  by_cases h1 : a ≤ x
  · have h2 : ¬ x ≤ b := fun h2 => h ⟨h1, h2⟩
    clear h
    go_enter Tryz.func46, Tryz.ntmps46
    go_wp2
    go_ret
    exact ⟨rfl, rfl⟩
  · clear h
    go_enter Tryz.func46, Tryz.ntmps46
    go_wp2
    go_ret
    exact ⟨rfl, rfl⟩

end Go.Proofs.YtfefggcfeppeiaaGreat

/- The smaller and the larger of two integers: the program's and the model's functions. -/
namespace Go.Proofs.YtfefggcfeppeiaaGreat
open Go.RowKit

def lst (a b : Int) : Int := if b < a then b else a
def mst (a b : Int) : Int := if b > a then b else a
theorem lst_min (a b : Int) : lst a b = min a b := by unfold lst; omega
theorem mst_max (a b : Int) : mst a b = max a b := by unfold mst; omega

set_option maxRecDepth 100000 in
set_option maxHeartbeats 400000 in
theorem sLeast_gt (a b : Int) (w : World) (h : b < a) : Calls Tryz.prog 79 #[.int .i64 a, .int .i64 b] w fun e w' => e = .returned (.int .i64 b) ∧ w = w' := by
  go_enter Tryz.func79, Tryz.ntmps79
  go_wp2
  go_ret
  exact ⟨rfl, rfl⟩
set_option maxRecDepth 100000 in
set_option maxHeartbeats 400000 in
theorem sLeast_le (a b : Int) (w : World) (h : a ≤ b) : Calls Tryz.prog 79 #[.int .i64 a, .int .i64 b] w fun e w' => e = .returned (.int .i64 a) ∧ w = w' := by
  go_enter Tryz.func79, Tryz.ntmps79
  go_wp2
  go_ret
  exact ⟨rfl, rfl⟩
set_option maxRecDepth 100000 in
set_option maxHeartbeats 400000 in
theorem sMost_gt (a b : Int) (w : World) (h : b > a) : Calls Tryz.prog 106 #[.int .i64 a, .int .i64 b] w fun e w' => e = .returned (.int .i64 b) ∧ w = w' := by
  go_enter Tryz.func106, Tryz.ntmps106
  go_wp2
  go_ret
  exact ⟨rfl, rfl⟩
set_option maxRecDepth 100000 in
set_option maxHeartbeats 400000 in
theorem sMost_le (a b : Int) (w : World) (h : b ≤ a) : Calls Tryz.prog 106 #[.int .i64 a, .int .i64 b] w fun e w' => e = .returned (.int .i64 a) ∧ w = w' := by
  go_enter Tryz.func106, Tryz.ntmps106
  go_wp2
  go_ret
  exact ⟨rfl, rfl⟩
theorem sLeast_any (a b : Int) (w : World) : Calls Tryz.prog 79 #[.int .i64 a, .int .i64 b] w fun e w' => e = .returned (.int .i64 (lst a b)) ∧ w = w' := by
  by_cases h : b < a
  · refine (sLeast_gt a b w h).mono fun e w' ⟨he, hw⟩ => ⟨?_, hw⟩
    rw [he]; unfold lst; rw [if_pos h]
  · refine (sLeast_le a b w (by omega)).mono fun e w' ⟨he, hw⟩ => ⟨?_, hw⟩
    rw [he]; unfold lst; rw [if_neg h]
theorem sMost_any (a b : Int) (w : World) : Calls Tryz.prog 106 #[.int .i64 a, .int .i64 b] w fun e w' => e = .returned (.int .i64 (mst a b)) ∧ w = w' := by
  by_cases h : b > a
  · refine (sMost_gt a b w h).mono fun e w' ⟨he, hw⟩ => ⟨?_, hw⟩
    rw [he]; unfold mst; rw [if_pos h]
  · refine (sMost_le a b w (by omega)).mono fun e w' ⟨he, hw⟩ => ⟨?_, hw⟩
    rw [he]; unfold mst; rw [if_neg h]
end Go.Proofs.YtfefggcfeppeiaaGreat

/- Rectangles: contracts of the program's and the model's functions over one rectangle or two. -/
namespace Go.Proofs.YtfefggcfeppeiaaGreat
open Go.RowKit

theorem ret_bool {a b : Bool} (h : a = b) : Ending.returned (.bool a) = .returned (.bool b) := by rw [h]
theorem ret_i64 {a b : Int} (h : a = b) : Ending.returned (.int .i64 a) = .returned (.int .i64 b) := by rw [h]

/-- A range of coordinates. -/
def rngB (a b : Int) : Bool := decide (0 ≤ a ∧ a ≤ b ∧ b ≤ 255)
def inB (x a b : Int) : Bool := decide (a ≤ x ∧ x ≤ b)
/-- A valid rectangle. -/
def okB (x0 y0 x1 y1 : Int) : Bool := rngB x0 x1 && rngB y0 y1

set_option maxRecDepth 100000 in
set_option maxHeartbeats 400000 in
theorem rangeOk_any (a b : Int) (w : World) : Calls Tryz.prog 69 #[.int .i64 a, .int .i64 b] w fun e w' => e = .returned (.bool (rngB a b)) ∧ w = w' := by
  by_cases h0 : 0 ≤ a
  · by_cases h1 : a ≤ b
    · by_cases h2 : b ≤ 255
      · have hr : Hid (rngB a b = true) := decide_eq_true ⟨h0, h1, h2⟩
        go_enter Tryz.func69, Tryz.ntmps69
        go_wp2
        go_ret
        exact ⟨ret_bool hr.out.symm, rfl⟩
      · have hr : Hid (rngB a b = false) := decide_eq_false (fun h => h2 h.2.2)
        have hd : decide (b ≤ 255) = false := decide_eq_false h2
        go_enter Tryz.func69, Tryz.ntmps69
        go_wp2
        go_ret
        exact ⟨ret_bool hr.out.symm, rfl⟩
    · have hr : Hid (rngB a b = false) := decide_eq_false (fun h => h1 h.2.1)
      have hd : decide (a ≤ b) = false := decide_eq_false h1
      go_enter Tryz.func69, Tryz.ntmps69
      go_wp2
      go_ret
      exact ⟨ret_bool hr.out.symm, rfl⟩
  · have hr : Hid (rngB a b = false) := decide_eq_false (fun h => h0 h.1)
    have hd : decide (0 ≤ a) = false := decide_eq_false h0
    go_enter Tryz.func69, Tryz.ntmps69
    go_wp2
    go_ret
    exact ⟨ret_bool hr.out.symm, rfl⟩

theorem l1In_any (x a b : Int) (w : World) : Calls Tryz.prog 46 #[.int .i64 x, .int .i64 a, .int .i64 b] w fun e w' => e = .returned (.bool (inB x a b)) ∧ w = w' := by
  by_cases h : a ≤ x ∧ x ≤ b
  · refine (l1In_yes x a b w h.1 h.2).mono fun e w' ⟨he, hw⟩ => ⟨?_, hw⟩
    rw [he]; unfold inB; rw [decide_eq_true h]
  · refine (l1In_no x a b w h).mono fun e w' ⟨he, hw⟩ => ⟨?_, hw⟩
    rw [he]; unfold inB; rw [decide_eq_false h]

set_option maxRecDepth 100000 in
set_option maxHeartbeats 400000 in
theorem iBoxOk_any (x0 y0 x1 y1 : Int) (w : World) : Calls Tryz.prog 47 #[.agg #[.int .i64 x0, .int .i64 y0, .int .i64 x1, .int .i64 y1]] w fun e w' =>
    e = .returned (.bool (okB x0 y0 x1 y1)) ∧ Below w.heap.size w w' := by
  cases h : rngB x0 x1 with
  | true =>
    have hr : Hid (okB x0 y0 x1 y1 = rngB y0 y1) := by show okB x0 y0 x1 y1 = _; unfold okB; rw [h]; rfl
    go_enter Tryz.func47, Tryz.ntmps47
    go_wp2_with fail
    refine (rangeOk_any x0 x1 _).mono ?_
    rintro e w1 ⟨rfl, rfl⟩
    go_wp2_with fail
    refine (rangeOk_any y0 y1 _).mono ?_
    rintro e w1 ⟨rfl, rfl⟩
    go_wp2
    go_ret
    exact ⟨ret_bool hr.out.symm, (Below.refl _ _).alloc (Nat.le_refl _) _⟩
  | false =>
    have hr : Hid (okB x0 y0 x1 y1 = false) := by show okB x0 y0 x1 y1 = _; unfold okB; rw [h]; rfl
    go_enter Tryz.func47, Tryz.ntmps47
    go_wp2_with fail
    refine (rangeOk_any x0 x1 _).mono ?_
    rintro e w1 ⟨rfl, rfl⟩
    go_wp2
    go_ret
    exact ⟨ret_bool hr.out.symm, (Below.refl _ _).alloc (Nat.le_refl _) _⟩


theorem okB_iff (x0 y0 x1 y1 : Int) : okB x0 y0 x1 y1 = true ↔ (0 ≤ x0 ∧ x0 ≤ x1 ∧ x1 ≤ 255) ∧ (0 ≤ y0 ∧ y0 ≤ y1 ∧ y1 ≤ 255) := by
  unfold okB rngB; simp
theorem okB_in (x0 y0 x1 y1 : Int) : okB x0 y0 x1 y1 = (((inB x0 0 255 && inB y0 0 255) && inB x1 x0 255) && inB y1 y0 255) := by
  rw [Bool.eq_iff_iff, okB_iff]; unfold inB; simp; omega

set_option maxRecDepth 100000 in
set_option maxHeartbeats 400000 in
theorem sBoxOk_any (x0 y0 x1 y1 : Int) (w : World) : Calls Tryz.prog 82 #[.agg #[.int .i64 x0, .int .i64 y0, .int .i64 x1, .int .i64 y1]] w fun e w' =>
    e = .returned (.bool (okB x0 y0 x1 y1)) ∧ Below w.heap.size w w' := by
  have hr : Hid (okB x0 y0 x1 y1 = _) := okB_in x0 y0 x1 y1
  cases h1 : inB x0 0 255 with
  | false =>
    go_enter Tryz.func82, Tryz.ntmps82
    go_wp2_with fail
    refine (l1In_any _ _ _ _).mono ?_
    rintro e w1 ⟨rfl, rfl⟩
    go_wp2
    go_ret
    exact ⟨ret_bool (by rw [hr.out, h1]; rfl), (Below.refl _ _).alloc (Nat.le_refl _) _⟩
  | true =>
  cases h2 : inB y0 0 255 with
  | false =>
    go_enter Tryz.func82, Tryz.ntmps82
    go_wp2_with fail
    refine (l1In_any _ _ _ _).mono ?_
    rintro e w1 ⟨rfl, rfl⟩
    go_wp2_with fail
    refine (l1In_any _ _ _ _).mono ?_
    rintro e w1 ⟨rfl, rfl⟩
    go_wp2
    go_ret
    exact ⟨ret_bool (by rw [hr.out, h1, h2]; rfl), (Below.refl _ _).alloc (Nat.le_refl _) _⟩
  | true =>
  cases h3 : inB x1 x0 255 with
  | false =>
    go_enter Tryz.func82, Tryz.ntmps82
    go_wp2_with fail
    refine (l1In_any _ _ _ _).mono ?_
    rintro e w1 ⟨rfl, rfl⟩
    go_wp2_with fail
    refine (l1In_any _ _ _ _).mono ?_
    rintro e w1 ⟨rfl, rfl⟩
    go_wp2_with fail
    refine (l1In_any _ _ _ _).mono ?_
    rintro e w1 ⟨rfl, rfl⟩
    go_wp2
    go_ret
    exact ⟨ret_bool (by rw [hr.out, h1, h2, h3]; rfl), (Below.refl _ _).alloc (Nat.le_refl _) _⟩
  | true =>
    go_enter Tryz.func82, Tryz.ntmps82
    go_wp2_with fail
    refine (l1In_any _ _ _ _).mono ?_
    rintro e w1 ⟨rfl, rfl⟩
    go_wp2_with fail
    refine (l1In_any _ _ _ _).mono ?_
    rintro e w1 ⟨rfl, rfl⟩
    go_wp2_with fail
    refine (l1In_any _ _ _ _).mono ?_
    rintro e w1 ⟨rfl, rfl⟩
    go_wp2_with fail
    refine (l1In_any _ _ _ _).mono ?_
    rintro e w1 ⟨rfl, rfl⟩
    go_wp2
    go_ret
    exact ⟨ret_bool (by rw [hr.out, h1, h2, h3]; rfl), (Below.refl _ _).alloc (Nat.le_refl _) _⟩

/-- The number of points; 0 of what is no rectangle. -/
def areaB (x0 y0 x1 y1 : Int) : Int := if okB x0 y0 x1 y1 = true then (x1 - x0 + 1) * (y1 - y0 + 1) else 0
theorem areaB_no {x0 y0 x1 y1 : Int} (h : okB x0 y0 x1 y1 = false) : areaB x0 y0 x1 y1 = 0 := by unfold areaB; rw [h]; rfl
theorem areaB_yes {x0 y0 x1 y1 : Int} (h : okB x0 y0 x1 y1 = true) : areaB x0 y0 x1 y1 = (x1 - x0 + 1) * (y1 - y0 + 1) := by unfold areaB; rw [h]; rfl
theorem areaB_bd (x0 y0 x1 y1 : Int) : 0 ≤ areaB x0 y0 x1 y1 ∧ areaB x0 y0 x1 y1 ≤ 65536 := by
  cases h : okB x0 y0 x1 y1 with
  | false => rw [areaB_no h]; omega
  | true =>
    rw [areaB_yes h]
    obtain ⟨⟨a, b, c⟩, d, e, f⟩ := (okB_iff _ _ _ _).1 h
    refine ⟨Int.mul_nonneg (by omega) (by omega), ?_⟩
    exact Int.le_trans (Int.mul_le_mul (by omega : x1 - x0 + 1 ≤ 256) (by omega : y1 - y0 + 1 ≤ 256) (by omega) (by omega)) (by omega)

set_option maxRecDepth 100000 in
set_option maxHeartbeats 400000 in
theorem sArea_any (x0 y0 x1 y1 : Int) (w : World) : Calls Tryz.prog 102 #[.agg #[.int .i64 x0, .int .i64 y0, .int .i64 x1, .int .i64 y1]] w fun e w' =>
    e = .returned (.int .i64 (areaB x0 y0 x1 y1)) ∧ Below w.heap.size w w' := by
  cases h : okB x0 y0 x1 y1 with
  | false =>
    go_enter Tryz.func102, Tryz.ntmps102
    go_wp2_with fail
    refine (sBoxOk_any x0 y0 x1 y1 _).mono ?_
    rintro e w1 ⟨rfl, hb⟩
    go_wp2
    go_ret
    exact ⟨ret_i64 (areaB_no h).symm, ((Below.refl _ _).alloc (Nat.le_refl _) _).trans (hb.mono (by simp))⟩
  | true =>
    obtain ⟨⟨a1, b1, c1⟩, d1, e1, f1⟩ := (okB_iff _ _ _ _).1 h
    have he := Lib.hid (areaB_yes h)
    have hm := areaB_bd x0 y0 x1 y1
    rw [he.out] at hm
    obtain ⟨m0, m1⟩ := hm
    go_enter Tryz.func102, Tryz.ntmps102
    go_wp2_with fail
    refine (sBoxOk_any x0 y0 x1 y1 _).mono ?_
    rintro e w1 ⟨rfl, hb⟩
    have hc : ∀ o, w1.cell? ⟨w.heap.size, o, none⟩ = _ := fun o => hb.cell (p := ⟨w.heap.size, o, none⟩) (by simp)
    go_wp2
    go_ret
    exact ⟨ret_i64 he.out.symm, ((Below.refl _ _).alloc (Nat.le_refl _) _).trans (hb.mono (by simp))⟩


/-- Block b holds a rectangle. -/
def IsBox (w : World) (b : Nat) (x0 y0 x1 y1 : Int) : Prop :=
  w.cell? ⟨b, 0, none⟩ = some (.int .i64 x0) ∧ w.cell? ⟨b, 1, none⟩ = some (.int .i64 y0) ∧ w.cell? ⟨b, 2, none⟩ = some (.int .i64 x1) ∧ w.cell? ⟨b, 3, none⟩ = some (.int .i64 y1)

set_option maxRecDepth 100000 in
set_option maxHeartbeats 400000 in
theorem sJoin_any (x0 y0 x1 y1 u0 v0 u1 v1 : Int) (w : World) : Calls Tryz.prog 104 #[.agg #[.int .i64 x0, .int .i64 y0, .int .i64 x1, .int .i64 y1], .agg #[.int .i64 u0, .int .i64 v0, .int .i64 u1, .int .i64 v1]] w fun e w' =>
    e = .returned (.agg #[.int .i64 (lst x0 u0), .int .i64 (lst y0 v0), .int .i64 (mst x1 u1), .int .i64 (mst y1 v1)]) ∧ Below w.heap.size w w' := by
  go_enter Tryz.func104, Tryz.ntmps104
  go_wp2_with fail
  go_region_held3 (fun w' => (w'.cell? ⟨w.heap.size, 0, none⟩ = some (.int .i64 x0) ∧ w'.cell? ⟨w.heap.size, 1, none⟩ = some (.int .i64 y0) ∧ w'.cell? ⟨w.heap.size, 2, none⟩ = some (.int .i64 x1) ∧ w'.cell? ⟨w.heap.size, 3, none⟩ = some (.int .i64 y1)) ∧
      (w'.cell? ⟨w.heap.size + 1, 0, none⟩ = some (.int .i64 u0) ∧ w'.cell? ⟨w.heap.size + 1, 1, none⟩ = some (.int .i64 v0) ∧ w'.cell? ⟨w.heap.size + 1, 2, none⟩ = some (.int .i64 u1) ∧ w'.cell? ⟨w.heap.size + 1, 3, none⟩ = some (.int .i64 v1)))
    (first | (simp; done) | go_keep)
    (first | ((with_reducible refine (sLeast_any _ _ _).mono ?_); rintro e w1 ⟨rfl, rfl⟩) | ((with_reducible refine (sMost_any _ _ _).mono ?_); rintro e w1 ⟨rfl, rfl⟩))
  go_wp2
  refine bodyPost_ret (v := .agg #[.int .i64 (lst x0 u0), .int .i64 (lst y0 v0), .int .i64 (mst x1 u1), .int .i64 (mst y1 v1)]) (by simp [results, Tryz.results104, go_sem]) rfl ⟨rfl, ?_⟩
  exact ((((Below.refl _ _).alloc (Nat.le_refl _) _).alloc (by simp) _).alloc (by simp; omega) _).drew
end Go.Proofs.YtfefggcfeppeiaaGreat

/- Rectangles: what two have in common, containment, growth: contracts of the program's and the model's functions. -/
namespace Go.Proofs.YtfefggcfeppeiaaGreat
open Go.RowKit

def crossB (x0 y0 x1 y1 u0 v0 u1 v1 : Int) : Bool := decide (x0 ≤ u1) && decide (u0 ≤ x1) && decide (y0 ≤ v1) && decide (v0 ≤ y1)
theorem crossB_last {x0 y0 x1 y1 u0 v0 u1 v1 : Int} (h : x0 ≤ u1 ∧ u0 ≤ x1 ∧ y0 ≤ v1) : decide (v0 ≤ y1) = crossB x0 y0 x1 y1 u0 v0 u1 v1 := by
  unfold crossB; rw [decide_eq_true h.1, decide_eq_true h.2.1, decide_eq_true h.2.2]; simp
theorem crossB_no {x0 y0 x1 y1 u0 v0 u1 v1 : Int} (h : ¬ (x0 ≤ u1 ∧ u0 ≤ x1 ∧ y0 ≤ v1 ∧ v0 ≤ y1)) : false = crossB x0 y0 x1 y1 u0 v0 u1 v1 := by
  cases h' : crossB x0 y0 x1 y1 u0 v0 u1 v1 with
  | false => rfl
  | true => exact absurd (by unfold crossB at h'; simp at h'; omega) h
def meetsB (x0 y0 x1 y1 u0 v0 u1 v1 : Int) : Bool := okB x0 y0 x1 y1 && okB u0 v0 u1 v1 && crossB x0 y0 x1 y1 u0 v0 u1 v1

set_option maxRecDepth 100000 in
set_option maxHeartbeats 400000 in
theorem iMeets_any (x0 y0 x1 y1 u0 v0 u1 v1 : Int) (w : World) : Calls Tryz.prog 24 #[.agg #[.int .i64 x0, .int .i64 y0, .int .i64 x1, .int .i64 y1], .agg #[.int .i64 u0, .int .i64 v0, .int .i64 u1, .int .i64 v1]] w fun e w' =>
    e = .returned (.bool (meetsB x0 y0 x1 y1 u0 v0 u1 v1)) ∧ Below w.heap.size w w' := by
  cases h1 : okB x0 y0 x1 y1 with
  | false =>
    have hr : Hid (meetsB x0 y0 x1 y1 u0 v0 u1 v1 = false) := by show meetsB x0 y0 x1 y1 u0 v0 u1 v1 = _; unfold meetsB; rw [h1]; rfl
    go_enter Tryz.func24, Tryz.ntmps24
    go_wp2_with fail
    refine (iBoxOk_any x0 y0 x1 y1 _).mono ?_
    rintro e w1 ⟨rfl, hb⟩
    go_wp2
    go_ret
    exact ⟨ret_bool hr.out.symm, (((Below.refl _ _).alloc (Nat.le_refl _) _).alloc (by simp) _).trans (hb.mono (by simp; omega))⟩
  | true =>
  cases h2 : okB u0 v0 u1 v1 with
  | false =>
    have hr : Hid (meetsB x0 y0 x1 y1 u0 v0 u1 v1 = false) := by show meetsB x0 y0 x1 y1 u0 v0 u1 v1 = _; unfold meetsB; rw [h1, h2]; rfl
    go_enter Tryz.func24, Tryz.ntmps24
    go_wp2_with fail
    refine (iBoxOk_any x0 y0 x1 y1 _).mono ?_
    rintro e w1 ⟨rfl, hb⟩
    have hz : w.heap.size + 2 ≤ w1.heap.size := by have := hb.size; simp at this; omega
    have hc : ∀ o, w1.cell? ⟨w.heap.size + 1, o, none⟩ = _ := fun o => hb.cell (p := ⟨w.heap.size + 1, o, none⟩) (by simp)
    go_wp2_with fail
    refine (iBoxOk_any u0 v0 u1 v1 _).mono ?_
    rintro e w2 ⟨rfl, hb2⟩
    go_wp2
    go_ret
    exact ⟨ret_bool hr.out.symm, ((((Below.refl _ _).alloc (Nat.le_refl _) _).alloc (by simp) _).trans (hb.mono (by simp; omega))).trans (hb2.mono (by omega))⟩
  | true =>
    have hr : Hid (meetsB x0 y0 x1 y1 u0 v0 u1 v1 = crossB x0 y0 x1 y1 u0 v0 u1 v1) := by show meetsB x0 y0 x1 y1 u0 v0 u1 v1 = _; unfold meetsB; rw [h1, h2]; rfl
    go_enter Tryz.func24, Tryz.ntmps24
    go_wp2_with fail
    refine (iBoxOk_any x0 y0 x1 y1 _).mono ?_
    rintro e w1 ⟨rfl, hb⟩
    have hz : w.heap.size + 2 ≤ w1.heap.size := by have := hb.size; simp at this; omega
    have hc : ∀ o, w1.cell? ⟨w.heap.size, o, none⟩ = _ := fun o => hb.cell (p := ⟨w.heap.size, o, none⟩) (by simp; omega)
    have hc' : ∀ o, w1.cell? ⟨w.heap.size + 1, o, none⟩ = _ := fun o => hb.cell (p := ⟨w.heap.size + 1, o, none⟩) (by simp)
    go_wp2_with fail
    refine (iBoxOk_any u0 v0 u1 v1 _).mono ?_
    rintro e w2 ⟨rfl, hb2⟩
    have hd : ∀ o, w2.cell? ⟨w.heap.size, o, none⟩ = _ := fun o => hb2.cell (p := ⟨w.heap.size, o, none⟩) (by simp; omega)
    have hd' : ∀ o, w2.cell? ⟨w.heap.size + 1, o, none⟩ = _ := fun o => hb2.cell (p := ⟨w.heap.size + 1, o, none⟩) (by simp; omega)
    go_wp2
    all_goals go_ret
    all_goals refine ⟨ret_bool (?_ : _ = meetsB x0 y0 x1 y1 u0 v0 u1 v1), ((((Below.refl _ _).alloc (Nat.le_refl _) _).alloc (by simp) _).trans (hb.mono (by simp; omega))).trans (hb2.mono (by omega))⟩
    all_goals rw [hr.out]
    all_goals first | exact crossB_last (by omega) | exact crossB_no (by omega)

set_option maxRecDepth 100000 in
set_option maxHeartbeats 400000 in
theorem sMeets_any (x0 y0 x1 y1 u0 v0 u1 v1 : Int) (w : World) : Calls Tryz.prog 65 #[.agg #[.int .i64 x0, .int .i64 y0, .int .i64 x1, .int .i64 y1], .agg #[.int .i64 u0, .int .i64 v0, .int .i64 u1, .int .i64 v1]] w fun e w' =>
    e = .returned (.bool (meetsB x0 y0 x1 y1 u0 v0 u1 v1)) ∧ Below w.heap.size w w' := by
  cases h1 : okB x0 y0 x1 y1 with
  | false =>
    have hr : Hid (meetsB x0 y0 x1 y1 u0 v0 u1 v1 = false) := by show meetsB x0 y0 x1 y1 u0 v0 u1 v1 = _; unfold meetsB; rw [h1]; rfl
    go_enter Tryz.func65, Tryz.ntmps65
    go_wp2_with fail
    refine (sBoxOk_any x0 y0 x1 y1 _).mono ?_
    rintro e w1 ⟨rfl, hb⟩
    go_wp2
    go_ret
    exact ⟨ret_bool hr.out.symm, (((Below.refl _ _).alloc (Nat.le_refl _) _).alloc (by simp) _).trans (hb.mono (by simp; omega))⟩
  | true =>
  cases h2 : okB u0 v0 u1 v1 with
  | false =>
    have hr : Hid (meetsB x0 y0 x1 y1 u0 v0 u1 v1 = false) := by show meetsB x0 y0 x1 y1 u0 v0 u1 v1 = _; unfold meetsB; rw [h1, h2]; rfl
    go_enter Tryz.func65, Tryz.ntmps65
    go_wp2_with fail
    refine (sBoxOk_any x0 y0 x1 y1 _).mono ?_
    rintro e w1 ⟨rfl, hb⟩
    have hz : w.heap.size + 2 ≤ w1.heap.size := by have := hb.size; simp at this; omega
    have hc : ∀ o, w1.cell? ⟨w.heap.size + 1, o, none⟩ = _ := fun o => hb.cell (p := ⟨w.heap.size + 1, o, none⟩) (by simp)
    go_wp2_with fail
    refine (sBoxOk_any u0 v0 u1 v1 _).mono ?_
    rintro e w2 ⟨rfl, hb2⟩
    go_wp2
    go_ret
    exact ⟨ret_bool hr.out.symm, ((((Below.refl _ _).alloc (Nat.le_refl _) _).alloc (by simp) _).trans (hb.mono (by simp; omega))).trans (hb2.mono (by omega))⟩
  | true =>
    have hr : Hid (meetsB x0 y0 x1 y1 u0 v0 u1 v1 = crossB x0 y0 x1 y1 u0 v0 u1 v1) := by show meetsB x0 y0 x1 y1 u0 v0 u1 v1 = _; unfold meetsB; rw [h1, h2]; rfl
    go_enter Tryz.func65, Tryz.ntmps65
    go_wp2_with fail
    refine (sBoxOk_any x0 y0 x1 y1 _).mono ?_
    rintro e w1 ⟨rfl, hb⟩
    have hz : w.heap.size + 2 ≤ w1.heap.size := by have := hb.size; simp at this; omega
    have hc : ∀ o, w1.cell? ⟨w.heap.size, o, none⟩ = _ := fun o => hb.cell (p := ⟨w.heap.size, o, none⟩) (by simp; omega)
    have hc' : ∀ o, w1.cell? ⟨w.heap.size + 1, o, none⟩ = _ := fun o => hb.cell (p := ⟨w.heap.size + 1, o, none⟩) (by simp)
    go_wp2_with fail
    refine (sBoxOk_any u0 v0 u1 v1 _).mono ?_
    rintro e w2 ⟨rfl, hb2⟩
    have hd : ∀ o, w2.cell? ⟨w.heap.size, o, none⟩ = _ := fun o => hb2.cell (p := ⟨w.heap.size, o, none⟩) (by simp; omega)
    have hd' : ∀ o, w2.cell? ⟨w.heap.size + 1, o, none⟩ = _ := fun o => hb2.cell (p := ⟨w.heap.size + 1, o, none⟩) (by simp; omega)
    go_wp2
    all_goals go_ret
    all_goals refine ⟨ret_bool (?_ : _ = meetsB x0 y0 x1 y1 u0 v0 u1 v1), ((((Below.refl _ _).alloc (Nat.le_refl _) _).alloc (by simp) _).trans (hb.mono (by simp; omega))).trans (hb2.mono (by omega))⟩
    all_goals rw [hr.out]
    all_goals first | exact crossB_last (by omega) | exact crossB_no (by omega)

/-- Two boxes lie in the first two blocks behind w; a callee that makes memory alone leaves them there. -/
theorem two_keep {w W w1 : World} {a b c d e f g h : Value}
    (hS : (Below w.heap.size w W ∧ w.heap.size + 2 ≤ W.heap.size) ∧ (W.cell? ⟨w.heap.size, 0, none⟩ = some a ∧ W.cell? ⟨w.heap.size, 1, none⟩ = some b ∧ W.cell? ⟨w.heap.size, 2, none⟩ = some c ∧ W.cell? ⟨w.heap.size, 3, none⟩ = some d) ∧
      (W.cell? ⟨w.heap.size + 1, 0, none⟩ = some e ∧ W.cell? ⟨w.heap.size + 1, 1, none⟩ = some f ∧ W.cell? ⟨w.heap.size + 1, 2, none⟩ = some g ∧ W.cell? ⟨w.heap.size + 1, 3, none⟩ = some h))
    (hb : Below W.heap.size W w1) :
    (Below w.heap.size w w1 ∧ w.heap.size + 2 ≤ w1.heap.size) ∧ (w1.cell? ⟨w.heap.size, 0, none⟩ = some a ∧ w1.cell? ⟨w.heap.size, 1, none⟩ = some b ∧ w1.cell? ⟨w.heap.size, 2, none⟩ = some c ∧ w1.cell? ⟨w.heap.size, 3, none⟩ = some d) ∧
      (w1.cell? ⟨w.heap.size + 1, 0, none⟩ = some e ∧ w1.cell? ⟨w.heap.size + 1, 1, none⟩ = some f ∧ w1.cell? ⟨w.heap.size + 1, 2, none⟩ = some g ∧ w1.cell? ⟨w.heap.size + 1, 3, none⟩ = some h) := by
  obtain ⟨⟨hB, hz⟩, h1, h2⟩ := hS
  have k : ∀ o, w1.cell? ⟨w.heap.size, o, none⟩ = W.cell? ⟨w.heap.size, o, none⟩ := fun o => hb.cell (p := ⟨w.heap.size, o, none⟩) (by show w.heap.size < _; omega)
  have k' : ∀ o, w1.cell? ⟨w.heap.size + 1, o, none⟩ = W.cell? ⟨w.heap.size + 1, o, none⟩ := fun o => hb.cell (p := ⟨w.heap.size + 1, o, none⟩) (by show w.heap.size + 1 < _; omega)
  have := hb.size
  simp only [k, k']
  exact ⟨⟨hB.trans (hb.mono (by omega)), by omega⟩, h1, h2⟩
/-- The world behind the boxing of two arguments, and a draw. -/
theorem two_start (w : World) (A B : Obj) : Below w.heap.size w ((w.alloc A).alloc B).drew ∧ w.heap.size + 2 ≤ ((w.alloc A).alloc B).drew.heap.size := ⟨(((Below.refl _ _).alloc (Nat.le_refl _) _).alloc (by simp) _).drew, by simp⟩

/-- Two rectangles compared with == -/
def boxEq (x0 y0 x1 y1 u0 v0 u1 v1 : Int) : Bool := decide (x0 = u0) && decide (y0 = v0) && decide (x1 = u1) && decide (y1 = v1)
theorem boxEq_iff (x0 y0 x1 y1 u0 v0 u1 v1 : Int) : boxEq x0 y0 x1 y1 u0 v0 u1 v1 = true ↔ x0 = u0 ∧ y0 = v0 ∧ x1 = u1 ∧ y1 = v1 := by unfold boxEq; simp [and_assoc]
theorem boxEq_self (x0 y0 x1 y1 : Int) : boxEq x0 y0 x1 y1 x0 y0 x1 y1 = true := (boxEq_iff _ _ _ _ _ _ _ _).2 ⟨rfl, rfl, rfl, rfl⟩

theorem eqBox_run (x0 y0 x1 y1 u0 v0 u1 v1 : Int) (w : World) :
    (binOp .eql 28 (.agg #[.int .i64 x0, .int .i64 y0, .int .i64 x1, .int .i64 y1]) (.agg #[.int .i64 u0, .int .i64 v0, .int .i64 u1, .int .i64 v1])).run Tryz.prog w = .ok (.bool (boxEq x0 y0 x1 y1 u0 v0 u1 v1)) w := by
  unfold boxEq
  by_cases h0 : x0 = u0
  · by_cases h1 : y0 = v0
    · by_cases h2 : x1 = u1
      · by_cases h3 : y1 = v1
        all_goals go_simp
      · go_simp
    · go_simp
  · go_simp
theorem neBox_run (x0 y0 x1 y1 u0 v0 u1 v1 : Int) (w : World) :
    (binOp .neq 28 (.agg #[.int .i64 x0, .int .i64 y0, .int .i64 x1, .int .i64 y1]) (.agg #[.int .i64 u0, .int .i64 v0, .int .i64 u1, .int .i64 v1])).run Tryz.prog w = .ok (.bool (!boxEq x0 y0 x1 y1 u0 v0 u1 v1)) w := by
  unfold boxEq
  by_cases h0 : x0 = u0
  · by_cases h1 : y0 = v0
    · by_cases h2 : x1 = u1
      · by_cases h3 : y1 = v1
        all_goals go_simp
      · go_simp
    · go_simp
  · go_simp

/-- Holding: the join is the first. -/
def holdsB (x0 y0 x1 y1 u0 v0 u1 v1 : Int) : Bool := boxEq (lst x0 u0) (lst y0 v0) (mst x1 u1) (mst y1 v1) x0 y0 x1 y1
theorem holdsB_iff (x0 y0 x1 y1 u0 v0 u1 v1 : Int) : holdsB x0 y0 x1 y1 u0 v0 u1 v1 = true ↔ x0 ≤ u0 ∧ y0 ≤ v0 ∧ u1 ≤ x1 ∧ v1 ≤ y1 := by
  unfold holdsB; rw [boxEq_iff, lst_min, lst_min, mst_max, mst_max]; omega

set_option maxRecDepth 100000 in
set_option maxHeartbeats 400000 in
theorem sGrowth_any (x0 y0 x1 y1 u0 v0 u1 v1 : Int) (w : World) : Calls Tryz.prog 101 #[.agg #[.int .i64 x0, .int .i64 y0, .int .i64 x1, .int .i64 y1], .agg #[.int .i64 u0, .int .i64 v0, .int .i64 u1, .int .i64 v1]] w fun e w' =>
    e = .returned (.int .i64 (areaB (lst x0 u0) (lst y0 v0) (mst x1 u1) (mst y1 v1) - areaB x0 y0 x1 y1)) ∧ Below w.heap.size w w' := by
  obtain ⟨a0, a1⟩ := areaB_bd x0 y0 x1 y1
  obtain ⟨b0, b1⟩ := areaB_bd (lst x0 u0) (lst y0 v0) (mst x1 u1) (mst y1 v1)
  go_enter Tryz.func101, Tryz.ntmps101
  go_wp2_with fail
  go_region_held3 (fun w' => (Below w.heap.size w w' ∧ w.heap.size + 2 ≤ w'.heap.size) ∧ (w'.cell? ⟨w.heap.size, 0, none⟩ = some (.int .i64 x0) ∧ w'.cell? ⟨w.heap.size, 1, none⟩ = some (.int .i64 y0) ∧ w'.cell? ⟨w.heap.size, 2, none⟩ = some (.int .i64 x1) ∧ w'.cell? ⟨w.heap.size, 3, none⟩ = some (.int .i64 y1)) ∧
      (w'.cell? ⟨w.heap.size + 1, 0, none⟩ = some (.int .i64 u0) ∧ w'.cell? ⟨w.heap.size + 1, 1, none⟩ = some (.int .i64 v0) ∧ w'.cell? ⟨w.heap.size + 1, 2, none⟩ = some (.int .i64 u1) ∧ w'.cell? ⟨w.heap.size + 1, 3, none⟩ = some (.int .i64 v1)))
    (first | exact two_keep (by assumption) hj | (refine ⟨two_start _ _ _, ?_⟩; simp; done))
    (first | ((with_reducible refine (sJoin_any _ _ _ _ _ _ _ _ _).mono ?_); rintro e w1 ⟨rfl, hj⟩) | ((with_reducible refine (sArea_any _ _ _ _ _).mono ?_); rintro e w1 ⟨rfl, hj⟩))
  all_goals
    rename_i hS
    have hB := hS.1.1
    clear hS
    go_wp2
    go_ret
    exact ⟨ret_i64 (IntWalk.i64_in _ (by omega)), hB⟩

end Go.Proofs.YtfefggcfeppeiaaGreat

/- For a region whose order is open: boxes that it loads, kept while callees make memory alone. Below: nothing that was in the first world has turned. -/
namespace Go.Proofs.YtfefggcfeppeiaaGreat
open Go.RowKit

theorem keep1 {w W w1 : World} {b0 : Nat} {x00 x01 x02 x03 : Value} (hS : (Below w.heap.size w W ∧ b0 < W.heap.size) ∧ (W.cell? ⟨b0, 0, none⟩ = some x00 ∧ W.cell? ⟨b0, 1, none⟩ = some x01 ∧ W.cell? ⟨b0, 2, none⟩ = some x02 ∧ W.cell? ⟨b0, 3, none⟩ = some x03)) (hb : Below W.heap.size W w1) : (Below w.heap.size w w1 ∧ b0 < w1.heap.size) ∧ (w1.cell? ⟨b0, 0, none⟩ = some x00 ∧ w1.cell? ⟨b0, 1, none⟩ = some x01 ∧ w1.cell? ⟨b0, 2, none⟩ = some x02 ∧ w1.cell? ⟨b0, 3, none⟩ = some x03) := by
  obtain ⟨⟨hB, h0⟩, r0⟩ := hS
  have hs := hb.size
  have hw := hB.size
  have k0 : ∀ o, w1.cell? ⟨b0, o, none⟩ = W.cell? ⟨b0, o, none⟩ := fun o => hb.cell (p := ⟨b0, o, none⟩) h0
  simp only [k0]
  exact ⟨⟨hB.trans (hb.mono (by omega)), by omega⟩, r0⟩
theorem keep2 {w W w1 : World} {b0 b1 : Nat} {x00 x01 x02 x03 x10 x11 x12 x13 : Value} (hS : (Below w.heap.size w W ∧ b0 < W.heap.size ∧ b1 < W.heap.size) ∧ (W.cell? ⟨b0, 0, none⟩ = some x00 ∧ W.cell? ⟨b0, 1, none⟩ = some x01 ∧ W.cell? ⟨b0, 2, none⟩ = some x02 ∧ W.cell? ⟨b0, 3, none⟩ = some x03) ∧ (W.cell? ⟨b1, 0, none⟩ = some x10 ∧ W.cell? ⟨b1, 1, none⟩ = some x11 ∧ W.cell? ⟨b1, 2, none⟩ = some x12 ∧ W.cell? ⟨b1, 3, none⟩ = some x13)) (hb : Below W.heap.size W w1) : (Below w.heap.size w w1 ∧ b0 < w1.heap.size ∧ b1 < w1.heap.size) ∧ (w1.cell? ⟨b0, 0, none⟩ = some x00 ∧ w1.cell? ⟨b0, 1, none⟩ = some x01 ∧ w1.cell? ⟨b0, 2, none⟩ = some x02 ∧ w1.cell? ⟨b0, 3, none⟩ = some x03) ∧ (w1.cell? ⟨b1, 0, none⟩ = some x10 ∧ w1.cell? ⟨b1, 1, none⟩ = some x11 ∧ w1.cell? ⟨b1, 2, none⟩ = some x12 ∧ w1.cell? ⟨b1, 3, none⟩ = some x13) := by
  obtain ⟨⟨hB, h0, h1⟩, r0, r1⟩ := hS
  have hs := hb.size
  have hw := hB.size
  have k0 : ∀ o, w1.cell? ⟨b0, o, none⟩ = W.cell? ⟨b0, o, none⟩ := fun o => hb.cell (p := ⟨b0, o, none⟩) h0
  have k1 : ∀ o, w1.cell? ⟨b1, o, none⟩ = W.cell? ⟨b1, o, none⟩ := fun o => hb.cell (p := ⟨b1, o, none⟩) h1
  simp only [k0, k1]
  exact ⟨⟨hB.trans (hb.mono (by omega)), by omega, by omega⟩, r0, r1⟩
theorem keep3 {w W w1 : World} {b0 b1 b2 : Nat} {x00 x01 x02 x03 x10 x11 x12 x13 x20 x21 x22 x23 : Value} (hS : (Below w.heap.size w W ∧ b0 < W.heap.size ∧ b1 < W.heap.size ∧ b2 < W.heap.size) ∧ (W.cell? ⟨b0, 0, none⟩ = some x00 ∧ W.cell? ⟨b0, 1, none⟩ = some x01 ∧ W.cell? ⟨b0, 2, none⟩ = some x02 ∧ W.cell? ⟨b0, 3, none⟩ = some x03) ∧ (W.cell? ⟨b1, 0, none⟩ = some x10 ∧ W.cell? ⟨b1, 1, none⟩ = some x11 ∧ W.cell? ⟨b1, 2, none⟩ = some x12 ∧ W.cell? ⟨b1, 3, none⟩ = some x13) ∧ (W.cell? ⟨b2, 0, none⟩ = some x20 ∧ W.cell? ⟨b2, 1, none⟩ = some x21 ∧ W.cell? ⟨b2, 2, none⟩ = some x22 ∧ W.cell? ⟨b2, 3, none⟩ = some x23)) (hb : Below W.heap.size W w1) : (Below w.heap.size w w1 ∧ b0 < w1.heap.size ∧ b1 < w1.heap.size ∧ b2 < w1.heap.size) ∧ (w1.cell? ⟨b0, 0, none⟩ = some x00 ∧ w1.cell? ⟨b0, 1, none⟩ = some x01 ∧ w1.cell? ⟨b0, 2, none⟩ = some x02 ∧ w1.cell? ⟨b0, 3, none⟩ = some x03) ∧ (w1.cell? ⟨b1, 0, none⟩ = some x10 ∧ w1.cell? ⟨b1, 1, none⟩ = some x11 ∧ w1.cell? ⟨b1, 2, none⟩ = some x12 ∧ w1.cell? ⟨b1, 3, none⟩ = some x13) ∧ (w1.cell? ⟨b2, 0, none⟩ = some x20 ∧ w1.cell? ⟨b2, 1, none⟩ = some x21 ∧ w1.cell? ⟨b2, 2, none⟩ = some x22 ∧ w1.cell? ⟨b2, 3, none⟩ = some x23) := by
  obtain ⟨⟨hB, h0, h1, h2⟩, r0, r1, r2⟩ := hS
  have hs := hb.size
  have hw := hB.size
  have k0 : ∀ o, w1.cell? ⟨b0, o, none⟩ = W.cell? ⟨b0, o, none⟩ := fun o => hb.cell (p := ⟨b0, o, none⟩) h0
  have k1 : ∀ o, w1.cell? ⟨b1, o, none⟩ = W.cell? ⟨b1, o, none⟩ := fun o => hb.cell (p := ⟨b1, o, none⟩) h1
  have k2 : ∀ o, w1.cell? ⟨b2, o, none⟩ = W.cell? ⟨b2, o, none⟩ := fun o => hb.cell (p := ⟨b2, o, none⟩) h2
  simp only [k0, k1, k2]
  exact ⟨⟨hB.trans (hb.mono (by omega)), by omega, by omega, by omega⟩, r0, r1, r2⟩
theorem keep4 {w W w1 : World} {b0 b1 b2 b3 : Nat} {x00 x01 x02 x03 x10 x11 x12 x13 x20 x21 x22 x23 x30 x31 x32 x33 : Value} (hS : (Below w.heap.size w W ∧ b0 < W.heap.size ∧ b1 < W.heap.size ∧ b2 < W.heap.size ∧ b3 < W.heap.size) ∧ (W.cell? ⟨b0, 0, none⟩ = some x00 ∧ W.cell? ⟨b0, 1, none⟩ = some x01 ∧ W.cell? ⟨b0, 2, none⟩ = some x02 ∧ W.cell? ⟨b0, 3, none⟩ = some x03) ∧ (W.cell? ⟨b1, 0, none⟩ = some x10 ∧ W.cell? ⟨b1, 1, none⟩ = some x11 ∧ W.cell? ⟨b1, 2, none⟩ = some x12 ∧ W.cell? ⟨b1, 3, none⟩ = some x13) ∧ (W.cell? ⟨b2, 0, none⟩ = some x20 ∧ W.cell? ⟨b2, 1, none⟩ = some x21 ∧ W.cell? ⟨b2, 2, none⟩ = some x22 ∧ W.cell? ⟨b2, 3, none⟩ = some x23) ∧ (W.cell? ⟨b3, 0, none⟩ = some x30 ∧ W.cell? ⟨b3, 1, none⟩ = some x31 ∧ W.cell? ⟨b3, 2, none⟩ = some x32 ∧ W.cell? ⟨b3, 3, none⟩ = some x33)) (hb : Below W.heap.size W w1) : (Below w.heap.size w w1 ∧ b0 < w1.heap.size ∧ b1 < w1.heap.size ∧ b2 < w1.heap.size ∧ b3 < w1.heap.size) ∧ (w1.cell? ⟨b0, 0, none⟩ = some x00 ∧ w1.cell? ⟨b0, 1, none⟩ = some x01 ∧ w1.cell? ⟨b0, 2, none⟩ = some x02 ∧ w1.cell? ⟨b0, 3, none⟩ = some x03) ∧ (w1.cell? ⟨b1, 0, none⟩ = some x10 ∧ w1.cell? ⟨b1, 1, none⟩ = some x11 ∧ w1.cell? ⟨b1, 2, none⟩ = some x12 ∧ w1.cell? ⟨b1, 3, none⟩ = some x13) ∧ (w1.cell? ⟨b2, 0, none⟩ = some x20 ∧ w1.cell? ⟨b2, 1, none⟩ = some x21 ∧ w1.cell? ⟨b2, 2, none⟩ = some x22 ∧ w1.cell? ⟨b2, 3, none⟩ = some x23) ∧ (w1.cell? ⟨b3, 0, none⟩ = some x30 ∧ w1.cell? ⟨b3, 1, none⟩ = some x31 ∧ w1.cell? ⟨b3, 2, none⟩ = some x32 ∧ w1.cell? ⟨b3, 3, none⟩ = some x33) := by
  obtain ⟨⟨hB, h0, h1, h2, h3⟩, r0, r1, r2, r3⟩ := hS
  have hs := hb.size
  have hw := hB.size
  have k0 : ∀ o, w1.cell? ⟨b0, o, none⟩ = W.cell? ⟨b0, o, none⟩ := fun o => hb.cell (p := ⟨b0, o, none⟩) h0
  have k1 : ∀ o, w1.cell? ⟨b1, o, none⟩ = W.cell? ⟨b1, o, none⟩ := fun o => hb.cell (p := ⟨b1, o, none⟩) h1
  have k2 : ∀ o, w1.cell? ⟨b2, o, none⟩ = W.cell? ⟨b2, o, none⟩ := fun o => hb.cell (p := ⟨b2, o, none⟩) h2
  have k3 : ∀ o, w1.cell? ⟨b3, o, none⟩ = W.cell? ⟨b3, o, none⟩ := fun o => hb.cell (p := ⟨b3, o, none⟩) h3
  simp only [k0, k1, k2, k3]
  exact ⟨⟨hB.trans (hb.mono (by omega)), by omega, by omega, by omega, by omega⟩, r0, r1, r2, r3⟩

theorem keepSet2 {w W : World} {b0 b1 : Nat} {x00 x01 x02 x03 x10 x11 x12 x13 : Value} (hS : (Below w.heap.size w W ∧ b0 < W.heap.size ∧ b1 < W.heap.size) ∧ (W.cell? ⟨b0, 0, none⟩ = some x00 ∧ W.cell? ⟨b0, 1, none⟩ = some x01 ∧ W.cell? ⟨b0, 2, none⟩ = some x02 ∧ W.cell? ⟨b0, 3, none⟩ = some x03) ∧ (W.cell? ⟨b1, 0, none⟩ = some x10 ∧ W.cell? ⟨b1, 1, none⟩ = some x11 ∧ W.cell? ⟨b1, 2, none⟩ = some x12 ∧ W.cell? ⟨b1, 3, none⟩ = some x13)) (p j : Nat) (u : Value) (hp : w.heap.size ≤ p ∧ b0 ≠ p ∧ b1 ≠ p) : (Below w.heap.size w (W.setCell ⟨p, j, none⟩ u) ∧ b0 < (W.setCell ⟨p, j, none⟩ u).heap.size ∧ b1 < (W.setCell ⟨p, j, none⟩ u).heap.size) ∧ ((W.setCell ⟨p, j, none⟩ u).cell? ⟨b0, 0, none⟩ = some x00 ∧ (W.setCell ⟨p, j, none⟩ u).cell? ⟨b0, 1, none⟩ = some x01 ∧ (W.setCell ⟨p, j, none⟩ u).cell? ⟨b0, 2, none⟩ = some x02 ∧ (W.setCell ⟨p, j, none⟩ u).cell? ⟨b0, 3, none⟩ = some x03) ∧ ((W.setCell ⟨p, j, none⟩ u).cell? ⟨b1, 0, none⟩ = some x10 ∧ (W.setCell ⟨p, j, none⟩ u).cell? ⟨b1, 1, none⟩ = some x11 ∧ (W.setCell ⟨p, j, none⟩ u).cell? ⟨b1, 2, none⟩ = some x12 ∧ (W.setCell ⟨p, j, none⟩ u).cell? ⟨b1, 3, none⟩ = some x13) := by
  obtain ⟨⟨hB, h0, h1⟩, r0, r1⟩ := hS
  obtain ⟨p0, n0, n1⟩ := hp
  have k0 : ∀ o, (W.setCell ⟨p, j, none⟩ u).cell? ⟨b0, o, none⟩ = W.cell? ⟨b0, o, none⟩ := fun o => World.cell?_setCell_far _ _ _ _ (fun e => n0 e.symm)
  have k1 : ∀ o, (W.setCell ⟨p, j, none⟩ u).cell? ⟨b1, o, none⟩ = W.cell? ⟨b1, o, none⟩ := fun o => World.cell?_setCell_far _ _ _ _ (fun e => n1 e.symm)
  simp only [k0, k1]
  exact ⟨⟨hB.setCell p0 u, by simpa using h0, by simpa using h1⟩, r0, r1⟩
theorem keepSwap2 {w W : World} {b0 b1 : Nat} {x00 x01 x02 x03 x10 x11 x12 x13 : Value} {O : Obj} (hS : (Below w.heap.size w (W.alloc O) ∧ b0 < (W.alloc O).heap.size ∧ b1 < (W.alloc O).heap.size) ∧ ((W.alloc O).cell? ⟨b0, 0, none⟩ = some x00 ∧ (W.alloc O).cell? ⟨b0, 1, none⟩ = some x01 ∧ (W.alloc O).cell? ⟨b0, 2, none⟩ = some x02 ∧ (W.alloc O).cell? ⟨b0, 3, none⟩ = some x03) ∧ ((W.alloc O).cell? ⟨b1, 0, none⟩ = some x10 ∧ (W.alloc O).cell? ⟨b1, 1, none⟩ = some x11 ∧ (W.alloc O).cell? ⟨b1, 2, none⟩ = some x12 ∧ (W.alloc O).cell? ⟨b1, 3, none⟩ = some x13)) (hp : w.heap.size ≤ W.heap.size ∧ b0 < W.heap.size ∧ b1 < W.heap.size) (O' : Obj) : (Below w.heap.size w (W.alloc O') ∧ b0 < (W.alloc O').heap.size ∧ b1 < (W.alloc O').heap.size) ∧ ((W.alloc O').cell? ⟨b0, 0, none⟩ = some x00 ∧ (W.alloc O').cell? ⟨b0, 1, none⟩ = some x01 ∧ (W.alloc O').cell? ⟨b0, 2, none⟩ = some x02 ∧ (W.alloc O').cell? ⟨b0, 3, none⟩ = some x03) ∧ ((W.alloc O').cell? ⟨b1, 0, none⟩ = some x10 ∧ (W.alloc O').cell? ⟨b1, 1, none⟩ = some x11 ∧ (W.alloc O').cell? ⟨b1, 2, none⟩ = some x12 ∧ (W.alloc O').cell? ⟨b1, 3, none⟩ = some x13) := by
  obtain ⟨⟨hB, h0, h1⟩, r0, r1⟩ := hS
  obtain ⟨p0, n0, n1⟩ := hp
  have k0 : ∀ o, (W.alloc O').cell? ⟨b0, o, none⟩ = (W.alloc O).cell? ⟨b0, o, none⟩ := fun o => (World.cell?_alloc_lt W O' ⟨b0, o, none⟩ n0).trans (World.cell?_alloc_lt W O ⟨b0, o, none⟩ n0).symm
  have k1 : ∀ o, (W.alloc O').cell? ⟨b1, o, none⟩ = (W.alloc O).cell? ⟨b1, o, none⟩ := fun o => (World.cell?_alloc_lt W O' ⟨b1, o, none⟩ n1).trans (World.cell?_alloc_lt W O ⟨b1, o, none⟩ n1).symm
  simp only [k0, k1]
  refine ⟨⟨?_, by simp; omega, by simp; omega⟩, r0, r1⟩
  refine ⟨hB.os, hB.tape, hB.output, by simp; omega, fun i hi => ?_⟩
  rw [heap_alloc_old W O' (by omega), ← heap_alloc_old W O (by omega)]
  exact hB.block i hi
theorem keepSet3 {w W : World} {b0 b1 b2 : Nat} {x00 x01 x02 x03 x10 x11 x12 x13 x20 x21 x22 x23 : Value} (hS : (Below w.heap.size w W ∧ b0 < W.heap.size ∧ b1 < W.heap.size ∧ b2 < W.heap.size) ∧ (W.cell? ⟨b0, 0, none⟩ = some x00 ∧ W.cell? ⟨b0, 1, none⟩ = some x01 ∧ W.cell? ⟨b0, 2, none⟩ = some x02 ∧ W.cell? ⟨b0, 3, none⟩ = some x03) ∧ (W.cell? ⟨b1, 0, none⟩ = some x10 ∧ W.cell? ⟨b1, 1, none⟩ = some x11 ∧ W.cell? ⟨b1, 2, none⟩ = some x12 ∧ W.cell? ⟨b1, 3, none⟩ = some x13) ∧ (W.cell? ⟨b2, 0, none⟩ = some x20 ∧ W.cell? ⟨b2, 1, none⟩ = some x21 ∧ W.cell? ⟨b2, 2, none⟩ = some x22 ∧ W.cell? ⟨b2, 3, none⟩ = some x23)) (p j : Nat) (u : Value) (hp : w.heap.size ≤ p ∧ b0 ≠ p ∧ b1 ≠ p ∧ b2 ≠ p) : (Below w.heap.size w (W.setCell ⟨p, j, none⟩ u) ∧ b0 < (W.setCell ⟨p, j, none⟩ u).heap.size ∧ b1 < (W.setCell ⟨p, j, none⟩ u).heap.size ∧ b2 < (W.setCell ⟨p, j, none⟩ u).heap.size) ∧ ((W.setCell ⟨p, j, none⟩ u).cell? ⟨b0, 0, none⟩ = some x00 ∧ (W.setCell ⟨p, j, none⟩ u).cell? ⟨b0, 1, none⟩ = some x01 ∧ (W.setCell ⟨p, j, none⟩ u).cell? ⟨b0, 2, none⟩ = some x02 ∧ (W.setCell ⟨p, j, none⟩ u).cell? ⟨b0, 3, none⟩ = some x03) ∧ ((W.setCell ⟨p, j, none⟩ u).cell? ⟨b1, 0, none⟩ = some x10 ∧ (W.setCell ⟨p, j, none⟩ u).cell? ⟨b1, 1, none⟩ = some x11 ∧ (W.setCell ⟨p, j, none⟩ u).cell? ⟨b1, 2, none⟩ = some x12 ∧ (W.setCell ⟨p, j, none⟩ u).cell? ⟨b1, 3, none⟩ = some x13) ∧ ((W.setCell ⟨p, j, none⟩ u).cell? ⟨b2, 0, none⟩ = some x20 ∧ (W.setCell ⟨p, j, none⟩ u).cell? ⟨b2, 1, none⟩ = some x21 ∧ (W.setCell ⟨p, j, none⟩ u).cell? ⟨b2, 2, none⟩ = some x22 ∧ (W.setCell ⟨p, j, none⟩ u).cell? ⟨b2, 3, none⟩ = some x23) := by
  obtain ⟨⟨hB, h0, h1, h2⟩, r0, r1, r2⟩ := hS
  obtain ⟨p0, n0, n1, n2⟩ := hp
  have k0 : ∀ o, (W.setCell ⟨p, j, none⟩ u).cell? ⟨b0, o, none⟩ = W.cell? ⟨b0, o, none⟩ := fun o => World.cell?_setCell_far _ _ _ _ (fun e => n0 e.symm)
  have k1 : ∀ o, (W.setCell ⟨p, j, none⟩ u).cell? ⟨b1, o, none⟩ = W.cell? ⟨b1, o, none⟩ := fun o => World.cell?_setCell_far _ _ _ _ (fun e => n1 e.symm)
  have k2 : ∀ o, (W.setCell ⟨p, j, none⟩ u).cell? ⟨b2, o, none⟩ = W.cell? ⟨b2, o, none⟩ := fun o => World.cell?_setCell_far _ _ _ _ (fun e => n2 e.symm)
  simp only [k0, k1, k2]
  exact ⟨⟨hB.setCell p0 u, by simpa using h0, by simpa using h1, by simpa using h2⟩, r0, r1, r2⟩
theorem keepSwap3 {w W : World} {b0 b1 b2 : Nat} {x00 x01 x02 x03 x10 x11 x12 x13 x20 x21 x22 x23 : Value} {O : Obj} (hS : (Below w.heap.size w (W.alloc O) ∧ b0 < (W.alloc O).heap.size ∧ b1 < (W.alloc O).heap.size ∧ b2 < (W.alloc O).heap.size) ∧ ((W.alloc O).cell? ⟨b0, 0, none⟩ = some x00 ∧ (W.alloc O).cell? ⟨b0, 1, none⟩ = some x01 ∧ (W.alloc O).cell? ⟨b0, 2, none⟩ = some x02 ∧ (W.alloc O).cell? ⟨b0, 3, none⟩ = some x03) ∧ ((W.alloc O).cell? ⟨b1, 0, none⟩ = some x10 ∧ (W.alloc O).cell? ⟨b1, 1, none⟩ = some x11 ∧ (W.alloc O).cell? ⟨b1, 2, none⟩ = some x12 ∧ (W.alloc O).cell? ⟨b1, 3, none⟩ = some x13) ∧ ((W.alloc O).cell? ⟨b2, 0, none⟩ = some x20 ∧ (W.alloc O).cell? ⟨b2, 1, none⟩ = some x21 ∧ (W.alloc O).cell? ⟨b2, 2, none⟩ = some x22 ∧ (W.alloc O).cell? ⟨b2, 3, none⟩ = some x23)) (hp : w.heap.size ≤ W.heap.size ∧ b0 < W.heap.size ∧ b1 < W.heap.size ∧ b2 < W.heap.size) (O' : Obj) : (Below w.heap.size w (W.alloc O') ∧ b0 < (W.alloc O').heap.size ∧ b1 < (W.alloc O').heap.size ∧ b2 < (W.alloc O').heap.size) ∧ ((W.alloc O').cell? ⟨b0, 0, none⟩ = some x00 ∧ (W.alloc O').cell? ⟨b0, 1, none⟩ = some x01 ∧ (W.alloc O').cell? ⟨b0, 2, none⟩ = some x02 ∧ (W.alloc O').cell? ⟨b0, 3, none⟩ = some x03) ∧ ((W.alloc O').cell? ⟨b1, 0, none⟩ = some x10 ∧ (W.alloc O').cell? ⟨b1, 1, none⟩ = some x11 ∧ (W.alloc O').cell? ⟨b1, 2, none⟩ = some x12 ∧ (W.alloc O').cell? ⟨b1, 3, none⟩ = some x13) ∧ ((W.alloc O').cell? ⟨b2, 0, none⟩ = some x20 ∧ (W.alloc O').cell? ⟨b2, 1, none⟩ = some x21 ∧ (W.alloc O').cell? ⟨b2, 2, none⟩ = some x22 ∧ (W.alloc O').cell? ⟨b2, 3, none⟩ = some x23) := by
  obtain ⟨⟨hB, h0, h1, h2⟩, r0, r1, r2⟩ := hS
  obtain ⟨p0, n0, n1, n2⟩ := hp
  have k0 : ∀ o, (W.alloc O').cell? ⟨b0, o, none⟩ = (W.alloc O).cell? ⟨b0, o, none⟩ := fun o => (World.cell?_alloc_lt W O' ⟨b0, o, none⟩ n0).trans (World.cell?_alloc_lt W O ⟨b0, o, none⟩ n0).symm
  have k1 : ∀ o, (W.alloc O').cell? ⟨b1, o, none⟩ = (W.alloc O).cell? ⟨b1, o, none⟩ := fun o => (World.cell?_alloc_lt W O' ⟨b1, o, none⟩ n1).trans (World.cell?_alloc_lt W O ⟨b1, o, none⟩ n1).symm
  have k2 : ∀ o, (W.alloc O').cell? ⟨b2, o, none⟩ = (W.alloc O).cell? ⟨b2, o, none⟩ := fun o => (World.cell?_alloc_lt W O' ⟨b2, o, none⟩ n2).trans (World.cell?_alloc_lt W O ⟨b2, o, none⟩ n2).symm
  simp only [k0, k1, k2]
  refine ⟨⟨?_, by simp; omega, by simp; omega, by simp; omega⟩, r0, r1, r2⟩
  refine ⟨hB.os, hB.tape, hB.output, by simp; omega, fun i hi => ?_⟩
  rw [heap_alloc_old W O' (by omega), ← heap_alloc_old W O (by omega)]
  exact hB.block i hi
end Go.Proofs.YtfefggcfeppeiaaGreat

/- Plain mathematics of the Hilbert curve: a level at a time; each position has its point and each point its position; neighbours on the curve are neighbours in the plane. -/
namespace Go.Proofs.YtfefggcfeppeiaaGreat

def pw : Nat → Int
  | 0 => 1
  | k + 1 => 2 * pw k
def sq : Nat → Int
  | 0 => 1
  | k + 1 => 4 * sq k
theorem pw_pos : ∀ k, 1 ≤ pw k
  | 0 => by decide
  | k + 1 => by have := pw_pos k; show 1 ≤ 2 * pw k; omega
theorem sq_pos : ∀ k, 1 ≤ sq k
  | 0 => by decide
  | k + 1 => by have := sq_pos k; show 1 ≤ 4 * sq k; omega
theorem sq_pw : ∀ k, sq k = pw k * pw k
  | 0 => rfl
  | k + 1 => by
    show 4 * sq k = 2 * pw k * (2 * pw k)
    rw [sq_pw k, Int.mul_assoc 2, Int.mul_left_comm (pw k) 2 (pw k), ← Int.mul_assoc 2 2]; rfl

/-- The quadrant of a point's bits, in the order of the curve. -/
def quad (rx ry : Int) : Int := if ry = 0 then (if rx = 1 then 3 else 0) else (if rx = 1 then 2 else 1)
/-- The turn behind a level. -/
def turnX (rx ry x y : Int) : Int := if ry = 0 then (if rx = 1 then 255 - y else y) else x
def turnY (rx ry x y : Int) : Int := if ry = 0 then (if rx = 1 then 255 - x else x) else y
/-- The position of a point, out of its k lowest bits. -/
def pos : Nat → Int → Int → Int
  | 0, _, _ => 0
  | k + 1, x, y => sq k * quad (x / pw k % 2) (y / pw k % 2) + pos k (turnX (x / pw k % 2) (y / pw k % 2) x y) (turnY (x / pw k % 2) (y / pw k % 2) x y)

theorem bit_mod (x s : Int) (hs : 1 ≤ s) : x / s % 2 = x % (2 * s) / s := by
  have e := Int.mul_ediv_add_emod x (2 * s)
  have h0 := Int.emod_nonneg x (b := 2 * s) (by omega)
  have h1 := Int.emod_lt_of_pos x (b := 2 * s) (by omega)
  generalize x % (2 * s) = r at *
  generalize x / (2 * s) = m at *
  have hx : x = r + s * (2 * m) := by rw [← e, Int.mul_comm 2 s, Int.mul_assoc]; omega
  rw [hx, Int.add_mul_ediv_left _ _ (by omega : s ≠ 0)]
  have : r / s = 0 ∨ r / s = 1 := by
    rcases Int.lt_or_le r s with h | h
    · exact .inl (Int.ediv_eq_zero_of_lt h0 h)
    · right
      have := Int.add_mul_ediv_left (r - s) 1 (by omega : s ≠ 0)
      rw [Int.mul_one, show r - s + s = r by omega, Int.ediv_eq_zero_of_lt (a := r - s) (b := s) (by omega) (by omega)] at this
      exact this
  omega
theorem mod_low (x s : Int) : x % (2 * s) % s = x % s := Int.emod_emod_of_dvd x ⟨2, by rw [Int.mul_comm]⟩
theorem mod_flip (x y s : Int) (h : x % s = y % s) : (255 - x) % s = (255 - y) % s := by rw [Int.sub_emod, h, ← Int.sub_emod]

theorem pos_mod : ∀ (k : Nat) (x y x' y' : Int), x % pw k = x' % pw k → y % pw k = y' % pw k → pos k x y = pos k x' y'
  | 0, _, _, _, _, _, _ => rfl
  | k + 1, x, y, x', y', hx, hy => by
    have hs := pw_pos k
    have hx' : x % (2 * pw k) = x' % (2 * pw k) := hx
    have hy' : y % (2 * pw k) = y' % (2 * pw k) := hy
    have lx : x % pw k = x' % pw k := by rw [← mod_low x, ← mod_low x', hx']
    have ly : y % pw k = y' % pw k := by rw [← mod_low y, ← mod_low y', hy']
    have bx : x / pw k % 2 = x' / pw k % 2 := by rw [bit_mod x _ hs, bit_mod x' _ hs, hx']
    have b_y : y / pw k % 2 = y' / pw k % 2 := by rw [bit_mod y _ hs, bit_mod y' _ hs, hy']
    show sq k * _ + pos k _ _ = sq k * _ + pos k _ _
    rw [bx, b_y]
    congr 1
    apply pos_mod k
    · unfold turnX; split
      · split
        · exact mod_flip _ _ _ ly
        · exact ly
      · exact lx
    · unfold turnY; split
      · split
        · exact mod_flip _ _ _ lx
        · exact lx
      · exact ly

/-- The point of a position below 4 to the k: the point of its lower digits, turned into its quadrant. -/
def combX (q s x y : Int) : Int := if q = 0 then y else if q = 1 then x else if q = 2 then x + s else 2 * s - 1 - y
def combY (q s x y : Int) : Int := if q = 0 then x else if q = 1 then y + s else if q = 2 then y + s else s - 1 - x
def pnt : Nat → Int → Int × Int
  | 0, _ => (0, 0)
  | k + 1, d => (combX (d / sq k % 4) (pw k) (pnt k d).1 (pnt k d).2, combY (d / sq k % 4) (pw k) (pnt k d).1 (pnt k d).2)

theorem pnt_in : ∀ (k : Nat) (d : Int), 0 ≤ (pnt k d).1 ∧ (pnt k d).1 < pw k ∧ 0 ≤ (pnt k d).2 ∧ (pnt k d).2 < pw k
  | 0, _ => ⟨Int.le_refl _, Int.zero_lt_one, Int.le_refl _, Int.zero_lt_one⟩
  | k + 1, d => by
    have ih := pnt_in k d
    have hs := pw_pos k
    have hq := Int.emod_nonneg (d / sq k) (b := 4) (by omega)
    have hq' := Int.emod_lt_of_pos (d / sq k) (b := 4) (by omega)
    show 0 ≤ combX _ _ _ _ ∧ combX _ _ _ _ < 2 * pw k ∧ 0 ≤ combY _ _ _ _ ∧ combY _ _ _ _ < 2 * pw k
    generalize d / sq k % 4 = q at *
    generalize (pnt k d).1 = x at *
    generalize (pnt k d).2 = y at *
    unfold combX combY
    rcases (by omega : q = 0 ∨ q = 1 ∨ q = 2 ∨ q = 3) with rfl | rfl | rfl | rfl <;> simp <;> omega

theorem quad_lt (x y s : Int) : 0 ≤ quad (x / s % 2) (y / s % 2) ∧ quad (x / s % 2) (y / s % 2) ≤ 3 := by unfold quad; split <;> split <;> omega

theorem pw_256 : ∀ k, k ≤ 8 → ∃ m, 256 = pw k * m
  | 0, _ => ⟨256, rfl⟩
  | 1, _ => ⟨128, rfl⟩
  | 2, _ => ⟨64, rfl⟩
  | 3, _ => ⟨32, rfl⟩
  | 4, _ => ⟨16, rfl⟩
  | 5, _ => ⟨8, rfl⟩
  | 6, _ => ⟨4, rfl⟩
  | 7, _ => ⟨2, rfl⟩
  | 8, _ => ⟨1, rfl⟩
theorem mod_of (x y s m : Int) (h : x = y + s * m) : x % s = y % s := by rw [h, Int.add_mul_emod_self_left]

theorem bit_lo (x s : Int) (h0 : 0 ≤ x) (h1 : x < s) : x / s % 2 = 0 := by rw [Int.ediv_eq_zero_of_lt h0 h1]; rfl
theorem bit_hi (x s : Int) (h0 : s ≤ x) (h1 : x < 2 * s) : x / s % 2 = 1 := by
  have := Int.add_mul_ediv_left (x - s) 1 (by omega : s ≠ 0)
  rw [Int.mul_one, show x - s + s = x by omega, Int.ediv_eq_zero_of_lt (a := x - s) (b := s) (by omega) (by omega)] at this
  rw [this]; rfl

/-- A level up: the position of a point that was turned into quadrant q. -/
theorem pos_comb (k : Nat) (hk : k < 8) (q x y : Int) (hq : 0 ≤ q ∧ q ≤ 3) (hx : 0 ≤ x ∧ x < pw k) (hy : 0 ≤ y ∧ y < pw k) :
    pos (k + 1) (combX q (pw k) x y) (combY q (pw k) x y) = sq k * q + pos k x y := by
  have hs := pw_pos k
  obtain ⟨m, hm⟩ := pw_256 k (by omega)
  rcases (by omega : q = 0 ∨ q = 1 ∨ q = 2 ∨ q = 3) with rfl | rfl | rfl | rfl
  · have e1 : combX 0 (pw k) x y = y := rfl
    have e2 : combY 0 (pw k) x y = x := rfl
    rw [e1, e2]
    show sq k * quad (y / pw k % 2) (x / pw k % 2) + pos k (turnX (y / pw k % 2) (x / pw k % 2) y x) (turnY (y / pw k % 2) (x / pw k % 2) y x) = _
    rw [bit_lo y _ hy.1 hy.2, bit_lo x _ hx.1 hx.2]
    rfl
  · have e1 : combX 1 (pw k) x y = x := rfl
    have e2 : combY 1 (pw k) x y = y + pw k := rfl
    rw [e1, e2]
    show sq k * quad (x / pw k % 2) ((y + pw k) / pw k % 2) + pos k (turnX (x / pw k % 2) ((y + pw k) / pw k % 2) x (y + pw k)) (turnY (x / pw k % 2) ((y + pw k) / pw k % 2) x (y + pw k)) = _
    rw [bit_lo x _ hx.1 hx.2, bit_hi (y + pw k) _ (by omega) (by omega)]
    show sq k * 1 + pos k x (y + pw k) = _
    rw [pos_mod k x (y + pw k) x y rfl (mod_of _ _ _ 1 (by rw [Int.mul_one]))]
  · have e1 : combX 2 (pw k) x y = x + pw k := rfl
    have e2 : combY 2 (pw k) x y = y + pw k := rfl
    rw [e1, e2]
    show sq k * quad ((x + pw k) / pw k % 2) ((y + pw k) / pw k % 2) + pos k (turnX ((x + pw k) / pw k % 2) ((y + pw k) / pw k % 2) (x + pw k) (y + pw k)) (turnY ((x + pw k) / pw k % 2) ((y + pw k) / pw k % 2) (x + pw k) (y + pw k)) = _
    rw [bit_hi (x + pw k) _ (by omega) (by omega), bit_hi (y + pw k) _ (by omega) (by omega)]
    show sq k * 2 + pos k (x + pw k) (y + pw k) = _
    rw [pos_mod k (x + pw k) (y + pw k) x y (mod_of _ _ _ 1 (by rw [Int.mul_one])) (mod_of _ _ _ 1 (by rw [Int.mul_one]))]
  · have e1 : combX 3 (pw k) x y = 2 * pw k - 1 - y := rfl
    have e2 : combY 3 (pw k) x y = pw k - 1 - x := rfl
    rw [e1, e2]
    show sq k * quad ((2 * pw k - 1 - y) / pw k % 2) ((pw k - 1 - x) / pw k % 2) + pos k (turnX ((2 * pw k - 1 - y) / pw k % 2) ((pw k - 1 - x) / pw k % 2) (2 * pw k - 1 - y) (pw k - 1 - x)) (turnY ((2 * pw k - 1 - y) / pw k % 2) ((pw k - 1 - x) / pw k % 2) (2 * pw k - 1 - y) (pw k - 1 - x)) = _
    rw [bit_hi (2 * pw k - 1 - y) _ (by omega) (by omega), bit_lo (pw k - 1 - x) _ (by omega) (by omega)]
    show sq k * 3 + pos k (255 - (pw k - 1 - x)) (255 - (2 * pw k - 1 - y)) = _
    rw [pos_mod k (255 - (pw k - 1 - x)) (255 - (2 * pw k - 1 - y)) x y (mod_of _ _ _ (m - 1) (by rw [Int.mul_sub, ← hm, Int.mul_one]; omega)) (mod_of _ _ _ (m - 2) (by rw [Int.mul_sub, ← hm]; omega))]

theorem div_sq (k : Nat) (d : Int) (h0 : 0 ≤ d) (h1 : d < sq (k + 1)) : 0 ≤ d / sq k ∧ d / sq k ≤ 3 := by
  have hs := sq_pos k
  have h1' : d < 4 * sq k := h1
  refine ⟨Int.ediv_nonneg h0 (by omega), ?_⟩
  have := Int.ediv_lt_of_lt_mul (by omega : (0 : Int) < sq k) h1'
  omega
theorem pnt_mod : ∀ (k : Nat) (d e m : Int), e = d + sq k * m → pnt k e = pnt k d
  | 0, _, _, _, _ => rfl
  | k + 1, d, e, m, h => by
    have hs := sq_pos k
    have h' : e = d + sq k * (4 * m) := by rw [h]; show d + 4 * sq k * m = _; rw [Int.mul_comm 4 (sq k), Int.mul_assoc]
    have hd : e / sq k % 4 = d / sq k % 4 := by
      rw [h', Int.add_mul_ediv_left _ _ (by omega : sq k ≠ 0), Int.add_mul_emod_self_left]
    show (combX _ _ _ _, combY _ _ _ _) = (combX _ _ _ _, combY _ _ _ _)
    rw [hd, pnt_mod k d e (4 * m) h']

/-- Each position is its point's position. -/
theorem pos_pnt : ∀ (k : Nat), k ≤ 8 → ∀ d, 0 ≤ d → d < sq k → pos k (pnt k d).1 (pnt k d).2 = d
  | 0, _, d, h0, h1 => by have : d < 1 := h1; show (0 : Int) = d; omega
  | k + 1, hk, d, h0, h1 => by
    have hs := sq_pos k
    obtain ⟨q0, q1⟩ := div_sq k d h0 h1
    obtain ⟨a, b, c, e⟩ := pnt_in k d
    show pos (k + 1) (combX (d / sq k % 4) (pw k) _ _) (combY (d / sq k % 4) (pw k) _ _) = d
    rw [Int.emod_eq_of_lt q0 (by omega), pos_comb k (by omega) _ _ _ ⟨q0, q1⟩ ⟨a, b⟩ ⟨c, e⟩]
    have hm := Int.mul_ediv_add_emod d (sq k)
    have r0 := Int.emod_nonneg d (b := sq k) (by omega)
    have r1 := Int.emod_lt_of_pos d (b := sq k) (by omega)
    have ih := pos_pnt k (by omega) (d % sq k) r0 r1
    rw [← pnt_mod k (d % sq k) d (d / sq k) (by omega)] at ih
    rw [ih]; exact hm

theorem pos_in : ∀ (k : Nat) (x y : Int), 0 ≤ pos k x y ∧ pos k x y < sq k
  | 0, _, _ => ⟨Int.le_refl _, Int.zero_lt_one⟩
  | k + 1, x, y => by
    have ih := pos_in k (turnX (x / pw k % 2) (y / pw k % 2) x y) (turnY (x / pw k % 2) (y / pw k % 2) x y)
    have hq := quad_lt x y (pw k)
    have hs := sq_pos k
    show 0 ≤ sq k * quad (x / pw k % 2) (y / pw k % 2) + _ ∧ sq k * quad (x / pw k % 2) (y / pw k % 2) + _ < 4 * sq k
    generalize quad (x / pw k % 2) (y / pw k % 2) = q at *
    rcases (by omega : q = 0 ∨ q = 1 ∨ q = 2 ∨ q = 3) with rfl | rfl | rfl | rfl <;> omega

theorem bit_cases (x s : Int) (h0 : 0 ≤ x) (h1 : x < 2 * s) : (x / s % 2 = 0 ∧ x < s) ∨ (x / s % 2 = 1 ∧ s ≤ x) := by
  rcases Int.lt_or_le x s with h | h
  · exact .inl ⟨bit_lo x s h0 h, h⟩
  · exact .inr ⟨bit_hi x s h h1, h⟩

/-- Each point is its position's point. -/
theorem pnt_pos : ∀ (k : Nat), k ≤ 8 → ∀ x y, 0 ≤ x → x < pw k → 0 ≤ y → y < pw k → pnt k (pos k x y) = (x, y)
  | 0, _, x, y, x0, x1, y0, y1 => by
    have a : x < 1 := x1
    have b : y < 1 := y1
    show ((0 : Int), (0 : Int)) = (x, y)
    rw [show x = 0 by omega, show y = 0 by omega]
  | k + 1, hk, x, y, x0, x1, y0, y1 => by
    have hs := pw_pos k
    have hz := sq_pos k
    have x1' : x < 2 * pw k := x1
    have y1' : y < 2 * pw k := y1
    obtain ⟨m, hm⟩ := pw_256 k (by omega)
    obtain ⟨p0, p1⟩ := pos_in k (turnX (x / pw k % 2) (y / pw k % 2) x y) (turnY (x / pw k % 2) (y / pw k % 2) x y)
    obtain ⟨q0, q1⟩ := quad_lt x y (pw k)
    have hd : pos (k + 1) x y = pos k (turnX (x / pw k % 2) (y / pw k % 2) x y) (turnY (x / pw k % 2) (y / pw k % 2) x y) + sq k * quad (x / pw k % 2) (y / pw k % 2) := by
      show sq k * _ + _ = _
      rw [Int.add_comm]
    have hq : pos (k + 1) x y / sq k % 4 = quad (x / pw k % 2) (y / pw k % 2) := by
      rw [hd, Int.add_mul_ediv_left _ _ (by omega : sq k ≠ 0), Int.ediv_eq_zero_of_lt p0 p1, Int.zero_add, Int.emod_eq_of_lt q0 (by omega)]
    have hp : ∀ u v, 0 ≤ u → u < pw k → 0 ≤ v → v < pw k → turnX (x / pw k % 2) (y / pw k % 2) x y % pw k = u % pw k → turnY (x / pw k % 2) (y / pw k % 2) x y % pw k = v % pw k → pnt k (pos (k + 1) x y) = (u, v) := by
      intro u v u0 u1 v0 v1 hu hv
      rw [pnt_mod k _ _ _ hd, pos_mod k _ _ u v hu hv]
      exact pnt_pos k (by omega) u v u0 u1 v0 v1
    show (combX (pos (k + 1) x y / sq k % 4) (pw k) (pnt k (pos (k + 1) x y)).1 (pnt k (pos (k + 1) x y)).2, combY (pos (k + 1) x y / sq k % 4) (pw k) (pnt k (pos (k + 1) x y)).1 (pnt k (pos (k + 1) x y)).2) = (x, y)
    rw [hq]
    rcases bit_cases x (pw k) x0 x1' with ⟨bx, lx⟩ | ⟨bx, lx⟩ <;> rcases bit_cases y (pw k) y0 y1' with ⟨b_y, ly⟩ | ⟨b_y, ly⟩
    · rw [bx, b_y] at hp ⊢
      rw [hp y x y0 ly x0 lx rfl rfl]; rfl
    · rw [bx, b_y] at hp ⊢
      rw [hp x (y - pw k) x0 lx (by omega) (by omega) rfl (mod_of _ _ _ 1 (by rw [Int.mul_one]; show y = _; omega))]
      show (x, y - pw k + pw k) = (x, y)
      rw [show y - pw k + pw k = y by omega]
    · rw [bx, b_y] at hp ⊢
      rw [hp (pw k - 1 - y) (2 * pw k - 1 - x) (by omega) (by omega) (by omega) (by omega) (mod_of _ _ _ (m - 1) (by show 255 - y = _; rw [Int.mul_sub, ← hm, Int.mul_one]; omega)) (mod_of _ _ _ (m - 2) (by show 255 - x = _; rw [Int.mul_sub, ← hm]; omega))]
      show (2 * pw k - 1 - (2 * pw k - 1 - x), pw k - 1 - (pw k - 1 - y)) = (x, y)
      rw [show 2 * pw k - 1 - (2 * pw k - 1 - x) = x by omega, show pw k - 1 - (pw k - 1 - y) = y by omega]
    · rw [bx, b_y] at hp ⊢
      rw [hp (x - pw k) (y - pw k) (by omega) (by omega) (by omega) (by omega) (mod_of _ _ _ 1 (by rw [Int.mul_one]; show x = _; omega)) (mod_of _ _ _ 1 (by rw [Int.mul_one]; show y = _; omega))]
      show (x - pw k + pw k, y - pw k + pw k) = (x, y)
      rw [show x - pw k + pw k = x by omega, show y - pw k + pw k = y by omega]

theorem pnt_zero : ∀ k, pnt k 0 = (0, 0)
  | 0 => rfl
  | k + 1 => by
    show (combX (0 / sq k % 4) _ _ _, combY (0 / sq k % 4) _ _ _) = _
    rw [Int.zero_ediv, pnt_zero k]; rfl
theorem pnt_last : ∀ k, pnt k (sq k - 1) = (pw k - 1, 0)
  | 0 => rfl
  | k + 1 => by
    have hs := sq_pos k
    have hd : sq (k + 1) - 1 = (sq k - 1) + sq k * 3 := by show 4 * sq k - 1 = _; omega
    have hq : (sq (k + 1) - 1) / sq k % 4 = 3 := by
      rw [hd, Int.add_mul_ediv_left _ _ (by omega : sq k ≠ 0), Int.ediv_eq_zero_of_lt (by omega) (by omega)]; rfl
    show (combX ((sq (k + 1) - 1) / sq k % 4) _ _ _, combY ((sq (k + 1) - 1) / sq k % 4) _ _ _) = _
    rw [hq, pnt_mod k _ _ _ hd, pnt_last k]
    show (2 * pw k - 1 - 0, pw k - 1 - (pw k - 1)) = (2 * pw k - 1, 0)
    rw [show 2 * pw k - 1 - 0 = 2 * pw k - 1 by omega, show pw k - 1 - (pw k - 1) = 0 by omega]

def gapI (a b : Int) : Int := if a < b then b - a else a - b
def Near (p q : Int × Int) : Prop := gapI p.1 q.1 + gapI p.2 q.2 = 1
theorem comb_near (q s : Int) (hq : 0 ≤ q ∧ q ≤ 3) (a b c d : Int) (h : Near (a, b) (c, d)) : Near (combX q s a b, combY q s a b) (combX q s c d, combY q s c d) := by
  unfold Near gapI combX combY at *
  simp only at *
  rcases (by omega : q = 0 ∨ q = 1 ∨ q = 2 ∨ q = 3) with rfl | rfl | rfl | rfl <;> simp <;> omega

/-- Neighbours on the curve are neighbours in the plane. -/
theorem pnt_near : ∀ (k : Nat) (d : Int), 0 ≤ d → d + 1 < sq k → Near (pnt k d) (pnt k (d + 1))
  | 0, d, h0, h1 => by have : d + 1 < 1 := h1; omega
  | k + 1, d, h0, h1 => by
    have hs := sq_pos k
    have hw := pw_pos k
    obtain ⟨q0, q1⟩ := div_sq k d h0 (by omega)
    have hm := Int.mul_ediv_add_emod d (sq k)
    have r0 := Int.emod_nonneg d (b := sq k) (by omega)
    have r1 := Int.emod_lt_of_pos d (b := sq k) (by omega)
    have e0 : pnt k d = pnt k (d % sq k) := pnt_mod k _ _ (d / sq k) (by omega)
    have hq : d / sq k % 4 = d / sq k := Int.emod_eq_of_lt q0 (by omega)
    show Near (combX (d / sq k % 4) _ _ _, combY (d / sq k % 4) _ _ _) (combX ((d + 1) / sq k % 4) _ _ _, combY ((d + 1) / sq k % 4) _ _ _)
    rw [hq, e0]
    generalize hQ : d / sq k = q at *
    generalize hR : d % sq k = r at *
    have hd1 : d + 1 = (r + 1) + sq k * q := by omega
    by_cases hlt : r + 1 < sq k
    · have hq' : (d + 1) / sq k % 4 = q := by
        rw [hd1, Int.add_mul_ediv_left _ _ (by omega : sq k ≠ 0), Int.ediv_eq_zero_of_lt (by omega) hlt, Int.zero_add, Int.emod_eq_of_lt q0 (by omega)]
      rw [hq', pnt_mod k (r + 1) (d + 1) q hd1]
      exact comb_near q _ ⟨q0, q1⟩ _ _ _ _ (pnt_near k r r0 hlt)
    · have hr : r = sq k - 1 := by omega
      have hd2 : d + 1 = 0 + sq k * (q + 1) := by rw [Int.mul_add, Int.mul_one]; omega
      have hq3 : q + 1 ≤ 3 := by
        have h1' : d + 1 < 4 * sq k := h1
        rcases (by omega : q ≤ 2 ∨ q = 3) with h | rfl
        · omega
        · omega
      have hq' : (d + 1) / sq k % 4 = q + 1 := by
        rw [hd2, Int.add_mul_ediv_left _ _ (by omega : sq k ≠ 0), Int.zero_ediv, Int.zero_add, Int.emod_eq_of_lt (by omega) (by omega)]
      rw [hq', pnt_mod k 0 (d + 1) (q + 1) hd2, hr, pnt_last, pnt_zero]
      unfold Near gapI combX combY
      rcases (by omega : q = 0 ∨ q = 1 ∨ q = 2) with rfl | rfl | rfl <;> simp <;> omega
end Go.Proofs.YtfefggcfeppeiaaGreat

/- The model's functions of the Hilbert curve: each computes the plain mathematics of XHilbert. -/
namespace Go.Proofs.YtfefggcfeppeiaaGreat
open Go.RowKit

/-- The position of a point; -1 outside the square. -/
def alongV (x y : Int) : Int := if inB x 0 255 = true ∧ inB y 0 255 = true then pos 8 x y else -1
/-- The point of a position; 0 and 0 outside the curve. -/
def pointV (d : Int) : Int × Int := if inB d 0 65535 = true then pnt 8 d else (0, 0)

/-- The size of the level behind i. -/
def lev : Nat → Int
  | 0 => 0
  | i + 1 => pw i
theorem pw_le : ∀ (i : Nat), i < 8 → pw i ≤ 128
  | 0, _ => by decide
  | 1, _ => by decide
  | 2, _ => by decide
  | 3, _ => by decide
  | 4, _ => by decide
  | 5, _ => by decide
  | 6, _ => by decide
  | 7, _ => by decide
  | i + 8, h => absurd h (by omega)
theorem lev_half (i : Nat) : pw i / 2 = lev i := by
  cases i with
  | zero => rfl
  | succ i => show 2 * pw i / 2 = pw i; omega
theorem x30 : bits .xor .i64 3 0 = 3 := by decide
theorem x31 : bits .xor .i64 3 1 = 2 := by decide
theorem x00 : bits .xor .i64 0 0 = 0 := by decide
theorem x01 : bits .xor .i64 0 1 = 1 := by decide
theorem bit01 (x s : Int) : x / s % 2 = 0 ∨ x / s % 2 = 1 := by omega
theorem sq_le (i : Nat) (h : i < 8) : sq i ≤ 16384 := by
  have a := pw_le i h
  have b := pw_pos i
  rw [sq_pw]
  exact Int.le_trans (Int.mul_le_mul a a (by omega) (by omega)) (by omega)

theorem ofInt_i64 (a : Nat) (ha : a < 9223372036854775808) : (BitVec.ofInt 64 (a : Int)).toNat = a := by
  rw [BitVec.ofInt_natCast, BitVec.toNat_ofNat]; exact Nat.mod_eq_of_lt (by omega)
theorem xor_nat (a b : Nat) (ha : a < 9223372036854775808) (hb : b < 9223372036854775808) : bits .xor .i64 (a : Int) (b : Int) = ((a ^^^ b : Nat) : Int) := by
  have hx : a ^^^ b < 2 ^ 63 := Nat.xor_lt_two_pow (by omega) (by omega)
  show IntKind.i64.wrap ((BitVec.ofInt 64 (a : Int) ^^^ BitVec.ofInt 64 (b : Int)).toNat : Int) = _
  rw [BitVec.toNat_xor, ofInt_i64 a ha, ofInt_i64 b hb, IntKind.wrap_i64]
  omega
/-- The lowest bit of a number and a bit, one or the other. -/
theorem xor_low (d b : Int) (h0 : 0 ≤ d) (h1 : d ≤ 65535) (hb : b = 0 ∨ b = 1) : bits .xor .i64 d b % 2 = (d + b) % 2 ∧ 0 ≤ bits .xor .i64 d b ∧ bits .xor .i64 d b ≤ 65537 := by
  obtain ⟨m, rfl⟩ := Int.eq_ofNat_of_zero_le h0
  obtain ⟨c, rfl⟩ := Int.eq_ofNat_of_zero_le (show 0 ≤ b by omega)
  rw [xor_nat m c (by omega) (by omega)]
  have e1 : (m ^^^ c) % 2 = (m + c) % 2 := by
    have h := Nat.xor_mod_two_pow (a := m) (b := c) (n := 1)
    rw [Nat.pow_one] at h
    rw [h]
    rcases (by omega : m % 2 = 0 ∨ m % 2 = 1) with a | a <;> rcases (by omega : c % 2 = 0 ∨ c % 2 = 1) with b | b <;> rw [a, b] <;> simp <;> omega
  have e2 : m ^^^ c < 2 ^ 16 := Nat.xor_lt_two_pow (by omega) (by omega)
  refine ⟨by omega, by omega, by omega⟩

theorem sq_succ (i : Nat) (d : Int) : d / sq i / 4 = d / sq (i + 1) := by
  have hs := sq_pos i
  show _ = d / (4 * sq i)
  rw [Int.mul_comm, Int.ediv_ediv_of_nonneg (by omega)]
theorem pnt_succ (i : Nat) (d a b q : Int) (h : pnt i d = (a, b)) (hq : d / sq i % 4 = q) : pnt (i + 1) d = (combX q (pw i) a b, combY q (pw i) a b) := by
  show (combX _ _ _ _, combY _ _ _ _) = _
  rw [h, hq]
theorem quart (r : Int) (_ : 0 ≤ r) : (r / 2 % 2 = 0 ∧ r % 2 = 0 ∧ r % 4 = 0) ∨ (r / 2 % 2 = 0 ∧ r % 2 = 1 ∧ r % 4 = 1) ∨ (r / 2 % 2 = 1 ∧ r % 2 = 0 ∧ r % 4 = 2) ∨ (r / 2 % 2 = 1 ∧ r % 2 = 1 ∧ r % 4 = 3) := by omega

theorem bit01' (r : Int) : r / 2 % 2 = 0 ∨ r / 2 % 2 = 1 := by omega
def RetPt (p : Int × Int) (w : World) (e : Ending) (w' : World) : Prop := e = .returned (.tuple #[.int .i64 p.1, .int .i64 p.2]) ∧ w = w'

end Go.Proofs.YtfefggcfeppeiaaGreat

/- A region in the order of the text whose operations only read and whose callees make memory alone: walked once, the world left open. -/
namespace Go.Proofs.YtfefggcfeppeiaaGreat
open Go.RowKit

theorem wpList_of_quiet {P : Program} {ops : Array Oper} {C : World → Prop} {Q : Exit → Act → World → Prop} : ∀ (l : List Oper) (a : Act) (w : World), C w →
    wpQuiet P ops C (fun a' => ∀ w', C w' → Q .normal a' w') l a → wpList P ops Q l a w
  | [], _, w, hw, h => wpList_nil (h w hw)
  | o :: l, a, w, hw, h => by
    refine wpList_step fun K hK => ?_
    unfold wpQuiet at h
    by_cases hwant : Region.wanted o (yielded ops a.tmps) = true
    · simp only [hwant, if_true] at h ⊢
      exact Oper.wp_of_quiet hw (fun a' w' hw' h' => hK _ _ (wpList_of_quiet l a' w' hw' h')) h
    · simp only [hwant] at h ⊢
      exact hK _ _ (wpList_of_quiet l _ w hw h)

theorem wp_plain_quiet_below {P : Program} {id : Nat} {Q : Exit → Act → World → Prop} {a : Act} {w : World} {l : List Oper}
    (h : wpQuiet P l.toArray (fun w' => ∃ p : Regrown, w' = Go.Sort.grow (redrawn w p.d) p.os) (fun a' => ∀ w', (∃ p : Regrown, w' = Go.Sort.grow (redrawn w p.d) p.os) → Q .normal a' w') l a) : (Code.region id l.toArray false).wp P Q a w :=
  wp_region_lit (wpList_of_quiet l a w ⟨⟨w.drawn, #[]⟩, by rw [Go.Sort.grow_empty]; rfl⟩ h)

/-- What stands behind the walk: a world of which only 'Below' is known. -/
theorem quiet_end {w : World} {R : World → Prop} (h : ∀ w', Below w.heap.size w w' → R w') : ∀ w', (∃ p : Regrown, w' = Go.Sort.grow (redrawn w p.d) p.os) → R w' := by
  rintro _ ⟨p, rfl⟩
  exact h _ (below_regrown w p.d p.os)
/-- A cell in every world of the class. -/
theorem cellq {w : World} {b j : Nat} {v : Value} (h : w.cell? ⟨b, j, none⟩ = some v) : ∀ d os, (Go.Sort.grow (redrawn w d) os).cell? ⟨b, j, none⟩ = some v := cell_regrown h
/-- A contract in every world of the class, its value said otherwise. -/
theorem callq {P : Program} {f : FuncId} {args : Array Value} {w : World} {v v' : Value} (h : ∀ W, Below w.heap.size w W → Calls P f args W fun e w' => e = .returned v ∧ Below W.heap.size W w') (e : v = v') :
    ∀ d os, Calls P f args (Go.Sort.grow (redrawn w d) os) fun e w'' => e = .returned v' ∧ ∃ p : Regrown, w'' = Go.Sort.grow (redrawn w p.d) p.os :=
  fun d os => Calls.regrown_of (e ▸ h _ (below_regrown w d os))
/-- A contract in every world, its value said otherwise. -/
theorem callv {P : Program} {f : FuncId} {args : Array Value} {v v' : Value} (h : ∀ W, Calls P f args W fun e w' => e = .returned v ∧ Below W.heap.size W w') (e : v = v') : ∀ W, Calls P f args W fun e w' => e = .returned v' ∧ Below W.heap.size W w' := e ▸ h
theorem callr {P : Program} {f : FuncId} {args : Array Value} {w : World} {v : Value} {d : Nat} {os : Array Obj} (h : Calls P f args (Go.Sort.grow (redrawn w d) os) fun e w' => e = .returned v ∧ Below (Go.Sort.grow (redrawn w d) os).heap.size (Go.Sort.grow (redrawn w d) os) w') :
    Calls P f args (Go.Sort.grow (redrawn w d) os) fun e w'' => e = .returned v ∧ ∃ p : Regrown, w'' = Go.Sort.grow (redrawn w p.d) p.os := Calls.regrown_of h
end Go.Proofs.YtfefggcfeppeiaaGreat

/- The model's functions over the curve: the middle of a rectangle, its key, how far two positions lie apart. -/
namespace Go.Proofs.YtfefggcfeppeiaaGreat
open Go.RowKit

def midV (a b : Int) : Int := wrap64 ((wrap64 (a + b)).tdiv 2)
theorem drewN_below (W : World) (n : Nat) : Below W.heap.size W (W.drewN n) := ⟨rfl, rfl, rfl, Nat.le_refl _, fun _ _ => rfl⟩
def keyV (x0 y0 x1 y1 : Int) : Int := alongV (midV x0 x1) (midV y0 y1)
def apartV (a b : Int) : Int := gapI (pointV a).1 (pointV b).1 + gapI (pointV a).2 (pointV b).2

theorem pointV_in (d : Int) : (0 ≤ (pointV d).1 ∧ (pointV d).1 ≤ 255) ∧ 0 ≤ (pointV d).2 ∧ (pointV d).2 ≤ 255 := by
  unfold pointV
  split
  · have := pnt_in 8 d
    have e : pw 8 = 256 := rfl
    omega
  · exact ⟨⟨by decide, by decide⟩, by decide, by decide⟩

end Go.Proofs.YtfefggcfeppeiaaGreat

/- Items: the laws' own helpers, and the functions over one item or two. -/
namespace Go.Proofs.YtfefggcfeppeiaaGreat
open Go.RowKit

/-- An item. -/
structure It where
  id : Int
  x0 : Int
  y0 : Int
  x1 : Int
  y1 : Int

def itLay : Lay It := ⟨5, fun b => [.int .i64 b.id, .int .i64 b.x0, .int .i64 b.y0, .int .i64 b.x1, .int .i64 b.y1], fun _ => rfl, by decide, fun x u hu => by simp at hu; rcases hu with rfl | rfl | rfl | rfl | rfl <;> rfl⟩

/-- An item's five cells in a slice. -/
theorem rdIt_at {w : World} {a : Option Addr} {n cap i : Nat} {xs : List It} (h : RdS itLay w a n cap xs) (hi : i < n) :
    ∃ b off x, a = some ⟨b, off, none⟩ ∧ b < w.heap.size ∧ xs[i]? = some x ∧ w.cell? ⟨b, off + i * 5, none⟩ = some (.int .i64 x.id) ∧ w.cell? ⟨b, off + i * 5 + 1, none⟩ = some (.int .i64 x.x0) ∧ w.cell? ⟨b, off + i * 5 + 2, none⟩ = some (.int .i64 x.y0) ∧
      w.cell? ⟨b, off + i * 5 + 3, none⟩ = some (.int .i64 x.x1) ∧ w.cell? ⟨b, off + i * 5 + 4, none⟩ = some (.int .i64 x.y1) := by
  obtain ⟨b, off, e, hlt, x, hx, hc⟩ := h.at_ hi
  exact ⟨b, off, x, e, hlt, hx, hc 0 _ rfl, hc 1 _ rfl, hc 2 _ rfl, hc 3 _ rfl, hc 4 _ rfl⟩

theorem blk_new2 (W : World) (O O' : Obj) (cs : Array Value) (t : TypeId) : (∀ o, (((W.alloc O).alloc O').alloc (.cells cs t)).cell? ⟨W.heap.size + 1 + 1, o, none⟩ = cs[o]?) ∧ (∀ o, (((W.alloc O).alloc O').alloc (.cells cs t)).frozen? ⟨W.heap.size + 1 + 1, o, none⟩ = false) := by
  have h := blk_new ((W.alloc O).alloc O') cs t
  rw [show ((W.alloc O).alloc O').heap.size = W.heap.size + 1 + 1 by simp] at h
  exact h

/-- Equality of items, field by field. -/
def itEq (a b : It) : Bool := a.id == b.id && boxEq a.x0 a.y0 a.x1 a.y1 b.x0 b.y0 b.x1 b.y1
theorem itEq_self (a : It) : itEq a a = true := by unfold itEq; rw [boxEq_self]; simp
theorem itEq_iff (a b : It) : itEq a b = true ↔ a = b := by
  unfold itEq
  rw [Bool.and_eq_true, boxEq_iff]
  cases a; cases b; simp

/-- Which items are valid. -/
def itOk (i x0 y0 x1 y1 : Int) : Bool := inB i 1 999 && okB x0 y0 x1 y1

set_option maxRecDepth 100000 in
set_option maxHeartbeats 400000 in
theorem sItemOk_any (i x0 y0 x1 y1 : Int) (w : World) : Calls Tryz.prog 88 #[.agg #[.int .i64 i, .int .i64 x0, .int .i64 y0, .int .i64 x1, .int .i64 y1]] w fun e w' =>
    e = .returned (.bool (itOk i x0 y0 x1 y1)) ∧ Below w.heap.size w w' := by
  cases h : inB i 1 999 with
  | true =>
    have hr : Hid (itOk i x0 y0 x1 y1 = okB x0 y0 x1 y1) := by show itOk _ _ _ _ _ = _; unfold itOk; rw [h]; rfl
    go_enter Tryz.func88, Tryz.ntmps88
    go_wp2_with fail
    refine (l1In_any i 1 999 _).mono ?_
    rw [h]
    rintro e w1 ⟨rfl, rfl⟩
    go_wp2_with fail
    refine (sBoxOk_any x0 y0 x1 y1 _).mono ?_
    rintro e w2 ⟨rfl, hj⟩
    go_wp2
    go_ret
    exact ⟨ret_bool hr.out.symm, ((Below.refl _ _).alloc (Nat.le_refl _) _).trans (hj.mono (by simp))⟩
  | false =>
    have hr : Hid (itOk i x0 y0 x1 y1 = false) := by show itOk _ _ _ _ _ = _; unfold itOk; rw [h]; rfl
    go_enter Tryz.func88, Tryz.ntmps88
    go_wp2_with fail
    refine (l1In_any i 1 999 _).mono ?_
    rw [h]
    rintro e w1 ⟨rfl, rfl⟩
    go_wp2
    go_ret
    exact ⟨ret_bool hr.out.symm, (Below.refl _ _).alloc (Nat.le_refl _) _⟩

/-- The order of the curve, of equal keys the order of Id. -/
def aheadV (k i m j : Int) : Bool := decide (k < m) || (decide (k = m) && decide (i < j))

end Go.Proofs.YtfefggcfeppeiaaGreat

/- The laws' own helpers on slices of items: how many, a copy, equality. -/
namespace Go.Proofs.YtfefggcfeppeiaaGreat
open Go.RowKit

theorem Tryz.infoItem : (Tryz.prog.info? 47).map (fun i => (i.zero, i.size, i.bytes)) = some (some (.agg #[.int .i64 0, .int .i64 0, .int .i64 0, .int .i64 0, .int .i64 0]), 5, 40) := by kernel_rfl

def zeroIt : It := ⟨0, 0, 0, 0, 0⟩
/-- The first k of xs, then zeros, n in all. -/
def copiedI (xs : List It) (n k : Nat) : List It := gen n fun j => if j < k then xs.getD j zeroIt else zeroIt
theorem copiedI_set (xs : List It) (n k : Nat) (x : It) (hx : xs[k]? = some x) : copiedI xs n (k + 1) = (copiedI xs n k).set k x := by
  unfold copiedI
  rw [gen_set]
  refine gen_congr n _ _ fun j _ => ?_
  by_cases h : j = k
  · subst h; simp [List.getD, hx]
  · rw [if_neg h]
    by_cases h' : j < k
    · rw [if_pos h', if_pos (by omega)]
    · rw [if_neg h', if_neg (by omega)]
theorem copiedI_start (xs : List It) (n : Nat) : copiedI xs n 0 = List.replicate n zeroIt := by
  unfold copiedI gen
  simp [List.map_const']
theorem copiedI_end (xs : List It) (n : Nat) (h : xs.length = n) : copiedI xs n n = xs := by
  rw [← gen_list xs zeroIt n h]
  unfold copiedI
  refine gen_congr n _ _ fun j hj => ?_
  rw [if_pos hj, gen_list xs zeroIt n h]
theorem copiedI_len (xs : List It) (n k : Nat) : (copiedI xs n k).length = n := gen_length _ _

/-- One element is written: its four cells, one by one. -/
theorem flat_setI (xs : List It) (k : Nat) (x : It) (hk : k < xs.length) :
    (((((xs.flatMap itLay.cells).set (k * 5) (.int .i64 x.id)).set (k * 5 + 1) (.int .i64 x.x0)).set (k * 5 + 2) (.int .i64 x.y0)).set (k * 5 + 3) (.int .i64 x.x1)).set (k * 5 + 4) (.int .i64 x.y1) = (xs.set k x).flatMap itLay.cells := by
  induction xs generalizing k with
  | nil => simp at hk
  | cons y l ih =>
    cases k with
    | zero => simp [itLay, List.flatMap_cons]
    | succ k =>
      have := ih k (by simpa using hk)
      simp only [List.flatMap_cons, List.set_cons_succ]
      rw [← this]
      have e : ∀ (j : Nat) (u : Value) (t : List Value), (itLay.cells y ++ t).set ((k + 1) * 5 + j) u = itLay.cells y ++ t.set (k * 5 + j) u := by
        intro j u t
        rw [List.set_append_right _ _ (by show 5 ≤ _; omega)]
        show itLay.cells y ++ t.set ((k + 1) * 5 + j - 5) u = _
        rw [show (k + 1) * 5 + j - 5 = k * 5 + j by omega]
      have e0 := e 0
      simp only [Nat.add_zero] at e0
      rw [e0, e 1, e 2, e 3, e 4]

theorem madeI (n : Nat) : (madeCells #[Value.int .i64 0, .int .i64 0, .int .i64 0, .int .i64 0, .int .i64 0] (n * 5)).toList = (List.replicate n zeroIt).flatMap itLay.cells := by
  apply List.ext_getElem?
  intro j
  have hr := Nat.div_add_mod j 5
  have hlt := Nat.mod_lt j (show 0 < 5 by omega)
  have hf := flat_at itLay (List.replicate n zeroIt) (j / 5) (j % 5) hlt
  rw [show j / 5 * itLay.sz + j % 5 = j by show j / 5 * 5 + j % 5 = j; omega] at hf
  rw [hf]
  by_cases hj : j < n * 5
  · have h4 : j / 5 < n := by omega
    rw [List.getElem?_replicate, if_pos h4]
    simp only [Option.bind_some]
    rcases (by omega : j % 5 = 0 ∨ j % 5 = 1 ∨ j % 5 = 2 ∨ j % 5 = 3 ∨ j % 5 = 4) with h | h | h | h | h <;> simp [madeCells, hj, h, itLay, zeroIt]
  · have h4 : ¬ j / 5 < n := by omega
    rw [List.getElem?_replicate, if_neg h4]
    simp [madeCells, hj]

/-- An owned rectangle's four cells. -/
theorem ownIt_at {w : World} {base : Nat} {e : TypeId} {g n cap i : Nat} {xs : List It} (h : w.ownsRow base e itLay.sz (.slice (some ⟨g, 0, none⟩) n cap) n (xs.flatMap itLay.cells)) (hl : xs.length = n) (hi : i < n) :
    ∃ x : It, w.cell? ⟨g, i * 5, none⟩ = some (.int .i64 x.id) ∧ w.cell? ⟨g, i * 5 + 1, none⟩ = some (.int .i64 x.x0) ∧ w.cell? ⟨g, i * 5 + 2, none⟩ = some (.int .i64 x.y0) ∧ w.cell? ⟨g, i * 5 + 3, none⟩ = some (.int .i64 x.x1) ∧ w.cell? ⟨g, i * 5 + 4, none⟩ = some (.int .i64 x.y1) := by
  subst hl
  obtain ⟨a, c, hv, hr⟩ := OwnS.rd (L := itLay) (e := e) (xs := xs) h
  obtain ⟨b, off, x, e1, _, _, d0, d1, d2, d3, d4⟩ := rdIt_at hr hi
  simp only [Value.slice.injEq] at hv
  obtain ⟨rfl, -, rfl⟩ := hv
  obtain ⟨rfl, rfl⟩ : g = b ∧ 0 = off := by simpa using e1
  simp only [Nat.zero_add] at d0 d1 d2 d3 d4
  exact ⟨x, d0, d1, d2, d3, d4⟩

/-- A slice of rectangles in new memory. -/
def NewItems (xs : List It) (w : World) (e : Ending) (w' : World) : Prop := ∃ v, e = .returned v ∧ OwnS itLay 47 w' w.heap.size v xs ∧ Below w.heap.size w w'

end Go.Proofs.YtfefggcfeppeiaaGreat

/- Items that are marked: the laws' own marking of a slice and its reading. -/
namespace Go.Proofs.YtfefggcfeppeiaaGreat
open Go.RowKit

def markIt (k : Int) (j : Nat) : It := ⟨k + 5 * j, k + 5 * j + 1, k + 5 * j + 1 + 1, k + 5 * j + 1 + 1 + 1, k + 5 * j + 1 + 1 + 1 + 1⟩
def markedI (n : Nat) (k : Int) : List It := gen n (markIt k)
theorem markedI_len (n : Nat) (k : Int) : (markedI n k).length = n := gen_length _ _

def halfI (xs : List It) (n : Nat) (k : Int) (m : Nat) : List It := gen n fun j => if j < m then markIt k j else xs.getD j zeroIt
theorem halfI_len (xs : List It) (n : Nat) (k : Int) (m : Nat) : (halfI xs n k m).length = n := gen_length _ _
theorem halfI_set (xs : List It) (n : Nat) (k : Int) (m : Nat) : halfI xs n k (m + 1) = (halfI xs n k m).set m (markIt k m) := by
  unfold halfI
  rw [gen_set]
  refine gen_congr n _ _ fun j _ => ?_
  by_cases h : j = m
  · subst h; simp
  · rw [if_neg h]
    by_cases h' : j < m
    · rw [if_pos h', if_pos (by omega)]
    · rw [if_neg h', if_neg (by omega)]
theorem halfI_start (xs : List It) (n : Nat) (k : Int) (h : xs.length = n) : halfI xs n k 0 = xs := by
  unfold halfI
  simp only [Nat.not_lt_zero, if_false]
  exact gen_list xs zeroIt n h
theorem halfI_end (xs : List It) (n : Nat) (k : Int) : halfI xs n k n = markedI n k := by
  unfold halfI markedI
  exact gen_congr n _ _ fun j hj => by rw [if_pos hj]

end Go.Proofs.YtfefggcfeppeiaaGreat

/- The laws' own helpers on entries. -/
namespace Go.Proofs.YtfefggcfeppeiaaGreat
open Go.RowKit

end Go.Proofs.YtfefggcfeppeiaaGreat

/- The laws' own helpers on slices of entries: how many, a copy, equality. -/
namespace Go.Proofs.YtfefggcfeppeiaaGreat
open Go.RowKit

theorem Tryz.infoEntry : (Tryz.prog.info? 77).map (fun i => (i.zero, i.size, i.bytes)) = some (some (.agg #[.int .i64 0, .int .i64 0, .int .i64 0, .int .i64 0, .int .i64 0]), 5, 40) := by kernel_rfl

/-- A slice of rectangles in new memory. -/
def NewEntries (xs : List It) (w : World) (e : Ending) (w' : World) : Prop := ∃ v, e = .returned v ∧ OwnS itLay 77 w' w.heap.size v xs ∧ Below w.heap.size w w'

end Go.Proofs.YtfefggcfeppeiaaGreat

/- Entries that are marked, and their reading. -/
namespace Go.Proofs.YtfefggcfeppeiaaGreat
open Go.RowKit

end Go.Proofs.YtfefggcfeppeiaaGreat

/- Owned slices of structs that lie apart. -/
namespace Go.Proofs.YtfefggcfeppeiaaGreat
open Go.RowKit
section
variable {α β : Type} {L : Lay α} {M : Lay β} {w w' : World} {e e' : TypeId} {base base' : Nat} {v v' : Value} {xs : List α} {ys : List β}
theorem OwnS.keptApart (h : OwnS L e w base v xs) (hg : w.grownBy w' v'.ownBlock) (ha : Apart v v') : OwnS L e w' base v xs := by
  refine OwnS.kept h hg ?_
  cases hv : v.ownBlock with
  | none => exact .inl rfl
  | some g => exact .inr fun e => ha g hv e.symm
theorem ownS_apart (h : OwnS L e w base v xs) (h' : OwnS M e' w' base' v' ys) (hb : w.heap.size ≤ base') : Apart v v' := by
  intro g hv hv'
  have h1 := World.ownsRow.lt h g hv
  have h2 := World.ownsRow.lt h' g hv'
  omega
theorem OwnS.lt (h : OwnS L e w base v xs) : ∀ g, v.ownBlock = some g → base ≤ g ∧ g < w.heap.size := World.ownsRow.lt h
theorem rdS_owns {a : Option Addr} {n cap : Nat} (h : OwnS L e w base (.slice a n cap) xs) : RdS L w a xs.length cap xs := by
  obtain ⟨a', c', hv, hr⟩ := h.rd
  simp only [Value.slice.injEq] at hv
  obtain ⟨rfl, -, rfl⟩ := hv
  exact hr
theorem rdS_owns' {a : Option Addr} {n cap : Nat} (h : w.ownsRow base e L.sz (.slice a n cap) n (xs.flatMap L.cells)) (hl : xs.length = n) : RdS L w a n cap xs := by
  subst hl
  exact rdS_owns (e := e) (base := base) h
end
end Go.Proofs.YtfefggcfeppeiaaGreat

/- The model's draws: a cursor over the bytes that came in; each draw by a contract that tells only the range of what is drawn. -/
namespace Go.Proofs.YtfefggcfeppeiaaGreat
open Go.RowKit

/-- Block g holds a cursor over the bytes zs, at place i, its hash h. -/
structure CurAt (g : Nat) (zs : List Int) (a : Option Addr) (cap : Nat) (i h : Int) (w : World) : Prop where
  bytes : ∀ z ∈ zs, 0 ≤ z ∧ z ≤ 255
  block : w.heap[g]? = some (.cells #[.slice a zs.length cap, .int .i64 i, .int .i64 h] 86 (0, 0))
  lo : 0 ≤ i
  hi : i ≤ zs.length
  wf : (Lit.int .i64 h).wf = true
  len : zs.length ≤ 1048576
  rd : RdI .u8 w a zs.length cap zs
  under : 0 < zs.length → ∀ x, a = some x → x.block < g
def Cur (g : Nat) (zs : List Int) (w : World) : Prop := ∃ a cap i h, CurAt g zs a cap i h w

theorem CurAt.keptBut {g : Nat} {zs : List Int} {a : Option Addr} {cap : Nat} {i h i' h' : Int} {w w' : World} (c : CurAt g zs a cap i h w) (hg : w.grownBy w' (some g))
    (hb : w'.heap[g]? = some (.cells #[.slice a zs.length cap, .int .i64 i', .int .i64 h'] 86 (0, 0))) (h0 : 0 ≤ i') (h1 : i' ≤ zs.length) (hw : (Lit.int .i64 h').wf = true) : CurAt g zs a cap i' h' w' := by
  refine ⟨c.bytes, hb, h0, h1, hw, c.len, ⟨c.rd.1, fun hn => ?_⟩, c.under⟩
  obtain ⟨b, off, e, hc⟩ := c.rd.2 hn
  refine ⟨b, off, e, fun j hj => ?_⟩
  have hlt2 : b < g := c.under hn _ e
  have hlt := (Array.getElem?_eq_some_iff.1 c.block).1
  rw [World.cell?_of_block (hg.block b (by omega) (fun e => by simp at e; omega))]
  exact hc j hj

theorem cur_kept {g : Nat} {zs : List Int} {w w' : World} {row : Option Nat} (h : Cur g zs w) (hg : w.grownBy w' row) (hr : ∀ k, row = some k → g < k) : Cur g zs w' := by
  obtain ⟨a, cap, i, x, c⟩ := h
  have hlt := (Array.getElem?_eq_some_iff.1 c.block).1
  refine ⟨a, cap, i, x, c.bytes, ?_, c.lo, c.hi, c.wf, c.len, ⟨c.rd.1, fun hn => ?_⟩, c.under⟩
  · rw [hg.block g hlt (fun e => by have := hr g e.symm; omega)]; exact c.block
  · obtain ⟨b, off, e, hc⟩ := c.rd.2 hn
    refine ⟨b, off, e, fun j hj => ?_⟩
    have hlt2 : b < g := c.under hn _ e
    rw [World.cell?_of_block (hg.block b (by omega) (fun e => by have := hr b e.symm; omega))]
    exact hc j hj

theorem grown_setCell {w : World} {row : Option Nat} {w' : World} (h : w.grownBy w' row) (g j : Nat) (u : Value) (hr : row = some g) : w.grownBy (w'.setCell ⟨g, j, none⟩ u) row :=
  grown_trans h ⟨rfl, rfl, rfl, by simp, fun k _ hk => heap_setCell_other w' ⟨g, j, none⟩ k u (fun e => hk (by rw [hr]; simp [e]))⟩
theorem grown_drewN {w w' : World} {row : Option Nat} (h : w.grownBy w' row) (n : Nat) : w.grownBy (w'.drewN n) row := grown_trans h ⟨rfl, rfl, rfl, Nat.le_refl _, fun _ _ _ => rfl⟩

theorem and255 (n : Int) : 0 ≤ bits .and .i64 n 255 ∧ bits .and .i64 n 255 ≤ 255 := by
  have h255 : (BitVec.ofInt 64 255).toNat = 2 ^ 8 - 1 := by decide
  have key : (BitVec.ofInt 64 n &&& BitVec.ofInt 64 255).toNat = (n % ((2 ^ 64 : Nat) : Int)).toNat % 2 ^ 8 := by
    rw [BitVec.toNat_and, BitVec.toNat_ofInt, h255, Nat.and_two_pow_sub_one_eq_mod]
  have e : bits .and .i64 n 255 = n % 256 := by
    show IntKind.i64.wrap ((BitVec.ofInt 64 n &&& BitVec.ofInt 64 255).toNat : Nat) = n % 256
    rw [key, IntKind.wrap_i64]
    omega
  rw [e]; omega

/-- What a draw leaves: a number in a range, the cursor, and all other blocks as they were. -/
def Drawn (g : Nat) (zs : List Int) (lo hi : Int) (w : World) (e : Ending) (w' : World) : Prop :=
  ∃ x : Int, e = .returned (.int .i64 x) ∧ lo ≤ x ∧ x ≤ hi ∧ Cur g zs w' ∧ w.grownBy w' (some g)

theorem wf_wrap64 (n : Int) : (Lit.int .i64 (wrap64 n)).wf = true := by rw [← IntWalk.i64_left]; exact wf_wrap .i64 n

set_option maxRecDepth 100000 in
set_option maxHeartbeats 400000 in
theorem l1Byte_any (g : Nat) (zs : List Int) (w : World) (h : Cur g zs w) :
    Calls Tryz.prog 61 #[.pointer (some ⟨g, 0, none⟩)] w (Drawn g zs 0 255 w) := by
  obtain ⟨a, cap, i, x, c⟩ := h
  have HC := Lib.hid c
  obtain ⟨hz, hh, h0, h1, hw, hl, hr, hb⟩ := c
  have hlt := (Array.getElem?_eq_some_iff.1 hh).1
  have c0 : w.cell? ⟨g, 0, none⟩ = some (.slice a zs.length cap) := by rw [cell_of_row w g 0 _ _ _ hh]; rfl
  have c1 : w.cell? ⟨g, 1, none⟩ = some (.int .i64 i) := by rw [cell_of_row w g 1 _ _ _ hh]; rfl
  have c2 : w.cell? ⟨g, 2, none⟩ = some (.int .i64 x) := by rw [cell_of_row w g 2 _ _ _ hh]; rfl
  have f1 : w.frozen? ⟨g, 1, none⟩ = false := frozen_of_row w g 1 _ _ hh
  have f2 : w.frozen? ⟨g, 2, none⟩ = false := frozen_of_row w g 2 _ _ hh
  have HH := Lib.hid hh
  have HZ := Lib.hid hz
  have HR := Lib.hid hr
  have HB := Lib.hid hb
  clear hh hz hr hb
  obtain ⟨y, hy⟩ : ∃ y, y = wrap64 (wrap64 (x * 6364136223846793005) + 1442695040888963407) := ⟨_, rfl⟩
  have HY := Lib.hid hy
  clear hy
  by_cases hi : i < zs.length
  · obtain ⟨b, off, rfl, hc⟩ := HR.out.2 (by omega)
    obtain ⟨m, rfl⟩ := Int.eq_ofNat_of_zero_le h0
    have hck := hc m (by omega)
    have hbg : b < g := HB.out (by omega) _ rfl
    have hng : ¬ b = g := by omega
    have hng' : ¬ g = b := by omega
    clear hc
    go_enter Tryz.func61, Tryz.ntmps61
    go_wp2
    rw [← HY.out]
    go_quiet (fail)
    go_wp2
    go_quiet (fail)
    go_wp2
    go_quiet (fail)
    go_wp2
    go_ret
    have B := and255
    refine ⟨_, rfl, (B _).1, (B _).2, ⟨_, _, (m : Int) + 1, y, HC.out.keptBut ?_ ?_ (by omega) (by omega) ?_⟩, ?_⟩
    · exact grown_setCell (grown_drewN (grown_setCell (World.grownBy.refl _ _) g 2 _ rfl) _) g 1 _ rfl
    · have e1 := heap_setCell_same w g 2 _ _ (.int .i64 y) HH.out
      exact heap_setCell_same ((w.setCell ⟨g, 2, none⟩ (.int .i64 y)).drewN _) g 1 _ _ (.int .i64 ((m : Int) + 1)) e1
    · rw [HY.out]; exact wf_wrap64 _
    · exact grown_setCell (grown_drewN (grown_setCell (World.grownBy.refl _ _) g 2 _ rfl) _) g 1 _ rfl
  · go_enter Tryz.func61, Tryz.ntmps61
    go_wp2
    rw [← HY.out]
    go_quiet (fail)
    go_wp2
    go_quiet (fail)
    go_wp2
    go_ret
    have B := and255
    refine ⟨_, rfl, (B _).1, (B _).2, ⟨_, _, i, y, HC.out.keptBut ?_ ?_ h0 h1 ?_⟩, ?_⟩
    · exact grown_drewN (grown_drewN (grown_setCell (World.grownBy.refl _ _) g 2 _ rfl) _) _
    · exact heap_setCell_same w g 2 _ _ (.int .i64 y) HH.out
    · rw [HY.out]; exact wf_wrap64 _
    · exact grown_drewN (grown_drewN (grown_setCell (World.grownBy.refl _ _) g 2 _ rfl) _) _

set_option maxRecDepth 100000 in
set_option maxHeartbeats 400000 in
/-- l1Below: a number from 0 on and below n; 0 where n is not above 0. -/
theorem l1Below_any (g : Nat) (zs : List Int) (n : Int) (w : World) (h : Cur g zs w) (hn : n ≤ 16000000) :
    Calls Tryz.prog 33 #[.pointer (some ⟨g, 0, none⟩), .int .i64 n] w (Drawn g zs 0 (if 0 < n then n - 1 else 0) w) := by
  by_cases h0 : n ≤ 0
  · rw [if_neg (by omega)]
    have H := Lib.hid h
    clear h
    go_enter Tryz.func33, Tryz.ntmps33
    go_wp2
    go_ret
    exact ⟨0, rfl, by omega, by omega, H.out, World.grownBy.refl _ _⟩
  · rw [if_pos (by omega)]
    by_cases h1 : n ≤ 256
    · have hr : ∀ x : Int, 0 ≤ x → 0 ≤ x % n ∧ x % n ≤ n - 1 := fun x hx => ⟨Int.emod_nonneg _ (by omega), by have := Int.emod_lt_of_pos x (b := n) (by omega); omega⟩
      have HRm := Lib.hid hr
      clear hr
      go_enter Tryz.func33, Tryz.ntmps33
      go_wp2_with fail
      refine (l1Byte_any g zs _ h).mono ?_
      rintro e w1 ⟨x, rfl, x0, x1, c1, g1⟩
      go_wp2
      go_ret
      exact ⟨_, rfl, (HRm.out _ x0).1, (HRm.out _ x0).2, c1, g1⟩
    · have hr : ∀ x : Int, 0 ≤ x → 0 ≤ x % n ∧ x % n ≤ n - 1 := fun x hx => ⟨Int.emod_nonneg _ (by omega), by have := Int.emod_lt_of_pos x (b := n) (by omega); omega⟩
      have HRm := Lib.hid hr
      clear hr
      go_enter Tryz.func33, Tryz.ntmps33
      go_wp2_with fail
      refine (l1Byte_any g zs _ h).mono ?_
      rintro e w1 ⟨x, rfl, x0, x1, c1, g1⟩
      go_wp2_with fail
      refine (l1Byte_any g zs _ c1).mono ?_
      rintro e w2 ⟨y, rfl, y0, y1, c2, g2⟩
      go_wp2_with fail
      refine (l1Byte_any g zs _ c2).mono ?_
      rintro e w3 ⟨z, rfl, z0, z1, c3, g3⟩
      go_wp2
      go_ret
      exact ⟨_, rfl, (HRm.out _ (by omega)).1, (HRm.out _ (by omega)).2, c3, grown_trans (grown_trans g1 g2) g3⟩

def DrawnB (g : Nat) (zs : List Int) (w : World) (e : Ending) (w' : World) : Prop := ∃ x : Bool, e = .returned (.bool x) ∧ Cur g zs w' ∧ w.grownBy w' (some g)

set_option maxRecDepth 100000 in
set_option maxHeartbeats 400000 in
theorem l1Once_any (g : Nat) (zs : List Int) (n : Int) (w : World) (h : Cur g zs w) (hn : n ≤ 16000000) :
    Calls Tryz.prog 78 #[.pointer (some ⟨g, 0, none⟩), .int .i64 n] w (DrawnB g zs w) := by
  go_enter Tryz.func78, Tryz.ntmps78
  go_wp2_with fail
  refine (l1Below_any g zs n _ h hn).mono ?_
  rintro e w1 ⟨x, rfl, x0, x1, c1, g1⟩
  go_wp2
  go_ret
  exact ⟨_, rfl, c1, g1⟩

/-- What a draw out of a list leaves. -/
def DrawnOf (g : Nat) (zs l : List Int) (w : World) (e : Ending) (w' : World) : Prop := ∃ x : Int, e = .returned (.int .i64 x) ∧ x ∈ l ∧ Cur g zs w' ∧ w.grownBy w' (some g)

set_option maxRecDepth 100000 in
set_option maxHeartbeats 400000 in
theorem l1Int_any (g : Nat) (zs l : List Int) (a : Option Addr) (n cap : Nat) (w : World) (h : Cur g zs w) (hr : RdI .i64 w a n cap l) (hl : 0 < n) (hl2 : n ≤ 1000) (ha : ∀ x, a = some x → x.block ≠ g) :
    Calls Tryz.prog 53 #[.pointer (some ⟨g, 0, none⟩), .slice a n cap] w (DrawnOf g zs l w) := by
  have hln := hr.1.1
  subst hln
  have hq : (0 : Int) < l.length := by omega
  go_enter Tryz.func53, Tryz.ntmps53
  go_wp2_with fail
  refine (l1Below_any g zs l.length _ h (by omega)).mono ?_
  rintro e w1 ⟨x, rfl, x0, x1, c1, g1⟩
  rw [if_pos hq] at x1
  obtain ⟨m, rfl⟩ := Int.eq_ofNat_of_zero_le x0
  obtain ⟨b, off, rfl, hc⟩ := hr.2 hl
  have hcm := hc m (by omega)
  rw [← World.cell?_of_block (a := ⟨b, off + m, none⟩) (g1.block b (World.block_lt_of_cell? w ⟨b, off + m, none⟩ hcm) (fun e => ha _ rfl (by simpa using e)))] at hcm
  have hm : l.getD m 0 ∈ l := by
    have : m < l.length := by omega
    simp [List.getD, this]
  obtain ⟨q, hq'⟩ : ∃ q, q = l.getD m 0 := ⟨_, rfl⟩
  rw [← hq'] at hcm hm
  clear hc hr hq'
  go_wp2
  go_ret
  exact ⟨_, rfl, hm, c1, g1⟩

/-- A pointer to a new cursor over the bytes that came in. -/
def NewCur (zs : List Int) (w : World) (e : Ending) (w' : World) : Prop := ∃ g, e = .returned (.pointer (some ⟨g, 0, none⟩)) ∧ Cur g zs w' ∧ Below w.heap.size w w' ∧ w.heap.size ≤ g

theorem newCur {zs : List Int} {w : World} {a : Option Addr} {cap : Nat} {x : Int} (hr : RdI .u8 w a zs.length cap zs) (hz : ∀ z ∈ zs, 0 ≤ z ∧ z ≤ 255) (hn : zs.length ≤ 1048576) (hx : (Lit.int .i64 x).wf = true) :
    NewCur zs w (.returned (.pointer (some ⟨w.heap.size, 0, none⟩))) (w.alloc (.cells #[.slice a zs.length cap, .int .i64 0, .int .i64 x] 86)) := by
  have hb : Below w.heap.size w (w.alloc (.cells #[.slice a zs.length cap, .int .i64 0, .int .i64 x] 86)) := (Below.refl _ _).alloc (Nat.le_refl _) _
  refine ⟨w.heap.size, rfl, ⟨a, cap, 0, x, hz, heap_alloc_new w _, by omega, by omega, hx, hn, hr.below hb, fun h y hy => ?_⟩, hb, Nat.le_refl _⟩
  obtain ⟨b, off, e, hc⟩ := hr.2 h
  rw [hy] at e
  obtain rfl := Option.some.inj e
  exact World.block_lt_of_cell? w ⟨b, off + 0, none⟩ (hc 0 h)

/-- Writes into block g, a new block, and writes into what is new: all in all, writes into block g. -/
theorem grown_own {a b c d : World} {g : Option Nat} {r r' : Option Nat} (h1 : a.grownBy b g) (h2 : b.grownBy c r) (h3 : c.grownBy d r') (hr' : ∀ j, r' = some j → a.heap.size ≤ j) (hr : ∀ j, r = some j → a.heap.size ≤ j := by intro j hj; cases hj) : a.grownBy d g :=
  ⟨h3.os.trans (h2.os.trans h1.os), h3.tape.trans (h2.tape.trans h1.tape), h3.output.trans (h2.output.trans h1.output), Nat.le_trans h1.size (Nat.le_trans h2.size h3.size), fun i hi hne =>
    (h3.block i (by have := h1.size; have := h2.size; omega) (fun e => by have := hr' i e.symm; omega)).trans ((h2.block i (by have := h1.size; omega) (fun e => by have := hr i e.symm; omega)).trans (h1.block i hi hne))⟩

set_option maxRecDepth 100000 in
set_option maxHeartbeats 400000 in
theorem l1New_any (a : Option Addr) (cap : Nat) (zs : List Int) (w : World) (h : RdI .u8 w a zs.length cap zs) (hz : ∀ z ∈ zs, 0 ≤ z ∧ z ≤ 255) (hn : zs.length ≤ 1048576) :
    Calls Tryz.prog 28 #[.slice a zs.length cap] w (NewCur zs w) := by
  have HR := Lib.hid h
  have HZ := Lib.hid hz
  clear h hz
  go_enter Tryz.func28, Tryz.ntmps28
  go_wp2
  go_loop [3, 4] (fun q i => ∃ (k : Nat) (x : Int), k ≤ zs.length ∧ i = .int .i64 k ∧ q = .int .i64 x ∧ (Lit.int .i64 x).wf = true)
    (fun _ i => zs.length - (intOf i).toNat)
  case atStart => exact ⟨0, _, Nat.zero_le _, rfl, rfl, by simp [Lit.wf, IntKind.min, IntKind.max, IntKind.signed, IntKind.bits]; omega⟩
  case round =>
    obtain ⟨k, x, hk, rfl, rfl, hx⟩ := hrel
    by_cases hlt : k < zs.length
    · have HR0 := HR.out.2 (by omega)
      obtain ⟨b, off, rfl, hc⟩ := HR0
      have hck := hc k hlt
      clear hc
      by_cases h4 : (k : Int) < 4000
      · go_wp2
        go_round
        case rel => exact ⟨k + 1, _, by omega, by go_num, rfl, wf_bits _ _ _ _⟩
        case measure => simp [intOf]; omega
      · go_wp2
        go_ret
        exact newCur HR.out HZ.out hn hx
    · go_wp2
      go_ret
      exact newCur HR.out HZ.out hn hx

theorem own_grown {k : IntKind} {e : TypeId} {w w' : World} {base g : Nat} {v : Value} {zs : List Int} (h : Own k e w base v zs) (hg : w.grownBy w' (some g)) (hb : g < base) : Own k e w' base v zs := by
  refine Own.kept h hg ?_
  cases hv : v.ownBlock with
  | none => exact .inl rfl
  | some j => exact .inr fun e => by have := (h.lt j hv).1; simp at e; omega
theorem below_grown {w w1 w' : World} {g : Nat} (h : Below w.heap.size w w1) (hg : w1.grownBy w' (some g)) (hb : w.heap.size ≤ g) : Below w.heap.size w w' := h.grown hg h.size (fun k hk => by simp at hk; omega)

theorem wf_small (x : Int) (h0 : -1000000 ≤ x) (h1 : x ≤ 1000000) : (Lit.int .i64 x).wf = true := by
  simp [Lit.wf, IntKind.min, IntKind.max, IntKind.signed, IntKind.bits]; omega

theorem cur_lt {g : Nat} {zs : List Int} {w : World} (h : Cur g zs w) : g < w.heap.size := by obtain ⟨_, _, _, _, c⟩ := h; exact (Array.getElem?_eq_some_iff.1 c.block).1
theorem cur_alloc {g : Nat} {zs : List Int} {w : World} (h : Cur g zs w) (o : Obj) : Cur g zs (w.alloc o) := cur_kept h (World.grownBy_alloc w o none) (fun k hk => by cases hk)

/-- What the draw of an integer of whatever size leaves. -/
def DrawnI (g : Nat) (zs : List Int) (w : World) (e : Ending) (w' : World) : Prop := ∃ x : Int, e = .returned (.int .i64 x) ∧ (Lit.int .i64 x).wf = true ∧ Cur g zs w' ∧ w.grownBy w' (some g)

def odds : List Int := [-1, 0, 1, 2, 255, 256, 65535, 2147483647, 2147483648, 4294967295, 4294967296, -2147483648, 9223372036854775807, -9223372036854775808]
theorem odds_wf : ∀ x ∈ odds, (Lit.int .i64 x).wf = true := by decide
def raws : List Int := [-1, 0, 1, 4, 255, 256, 65535, 65536]
theorem raws_wf : ∀ x ∈ raws, (Lit.int .i64 x).wf = true := by decide

theorem drawnI_of {g : Nat} {zs l : List Int} {w : World} {o : Obj} {e : Ending} {w' : World} (hl : ∀ x ∈ l, (Lit.int .i64 x).wf = true) (h : DrawnOf g zs l (w.alloc o) e w') : DrawnI g zs w e w' := by
  obtain ⟨x, he, hx, hc, hw⟩ := h
  refine ⟨x, he, hl x hx, hc, ⟨hw.os, hw.tape, hw.output, by have := hw.size; simp at this; omega, fun i hi hne => ?_⟩⟩
  rw [hw.block i (by simp; omega) hne]
  exact heap_alloc_old w o hi

set_option maxRecDepth 100000 in
set_option maxHeartbeats 400000 in
theorem l1Odd_any (g : Nat) (zs : List Int) (w : World) (h : Cur g zs w) :
    Calls Tryz.prog 80 #[.pointer (some ⟨g, 0, none⟩)] w (DrawnI g zs w) := by
  have hlt := cur_lt h
  go_enter Tryz.func80, Tryz.ntmps80
  go_wp2_with fail
  refine (l1Int_any g zs odds (some ⟨w.heap.size, 0, none⟩) 14 14 _ (cur_alloc h _) (rdI_new w .i64 odds _ _ 14 rfl rfl (by simp [maxLen])) (by omega) (by omega) (fun x hx => by cases hx; simp; omega)).mono ?_
  intro e w1 hd
  obtain ⟨x, rfl, hx, hc, hw⟩ := drawnI_of odds_wf hd
  go_wp2
  go_ret
  exact ⟨_, rfl, hx, hc, hw⟩

set_option maxRecDepth 100000 in
set_option maxHeartbeats 400000 in
theorem l1Raw_any (g : Nat) (zs : List Int) (w : World) (h : Cur g zs w) :
    Calls Tryz.prog 57 #[.pointer (some ⟨g, 0, none⟩)] w (DrawnI g zs w) := by
  go_enter Tryz.func57, Tryz.ntmps57
  go_wp2_with fail
  refine (l1Once_any g zs 2 _ h (by omega)).mono ?_
  rintro e w1 ⟨b, rfl, c1, g1⟩
  have hlt := cur_lt c1
  cases b with
  | true =>
    go_wp2_with fail
    refine (l1Odd_any g zs _ c1).mono ?_
    rintro e w2 ⟨x, rfl, hx, c2, g2⟩
    go_wp2
    go_ret
    exact ⟨_, rfl, hx, c2, grown_trans g1 g2⟩
  | false =>
    go_wp2_with fail
    refine (l1Int_any g zs raws (some ⟨w1.heap.size, 0, none⟩) 8 8 _ (cur_alloc c1 _) (rdI_new w1 .i64 raws _ _ 8 rfl rfl (by simp [maxLen])) (by omega) (by omega) (fun x hx => by cases hx; simp; omega)).mono ?_
    intro e w2 hd
    obtain ⟨x, rfl, hx, c2, g2⟩ := drawnI_of raws_wf hd
    go_wp2
    go_ret
    exact ⟨_, rfl, hx, c2, grown_trans g1 g2⟩
end Go.Proofs.YtfefggcfeppeiaaGreat

/- The laws' own helpers on nodes: a copy, how large, equality, marks. -/
namespace Go.Proofs.YtfefggcfeppeiaaGreat
open Go.RowKit

theorem size_alloc3 (w : World) (a b c : Obj) : (((w.alloc a).alloc b).alloc c).heap.size = w.heap.size + 1 + 1 + 1 := by simp
theorem ownS_set {w : World} {e : TypeId} {base g : Nat} {v : Value} {xs : List It} (h : OwnS itLay e w base v xs) (hg : v.ownBlock = some g → False) (j : Nat) (u : Value) : OwnS itLay e (w.setCell ⟨g, j, none⟩ u) base v xs := by
  refine OwnS.kept h (grown_setCell (World.grownBy.refl _ _) g j u rfl) ?_
  cases hv : v.ownBlock with
  | none => exact .inl rfl
  | some i => exact .inr fun e => hg (hv.trans e)
/-- A node in new memory: its entries are owned. -/
def NewNode (b : Bool) (xs : List It) (w : World) (e : Ending) (w' : World) : Prop := ∃ v, e = .returned (.agg #[.bool b, v]) ∧ OwnS itLay 77 w' w.heap.size v xs ∧ Below w.heap.size w w'

end Go.Proofs.YtfefggcfeppeiaaGreat

/- Slices of slices: what l[:k] and l[k:] read; append from any source at a step of a region that draws. -/
namespace Go.Proofs.YtfefggcfeppeiaaGreat
open Go.RowKit

section
variable {α : Type} {L : Lay α} {w w' : World} {a : Option Addr} {n cap : Nat} {xs : List α}
theorem RdS.take (h : RdS L w a n cap xs) (k : Nat) (hk : k ≤ n) : RdS L w a k cap (xs.take k) := by
  obtain ⟨⟨h1, h2, h3, h4⟩, h5⟩ := h
  refine ⟨⟨by rw [List.length_take]; omega, by omega, h3, fun ha => ⟨by have := (h4 ha).1; omega, (h4 ha).2⟩⟩, fun hn => ?_⟩
  obtain ⟨b, off, e, hc⟩ := h5 (by omega)
  refine ⟨b, off, e, fun i x hi => hc i x ?_⟩
  rw [List.getElem?_take] at hi
  split at hi
  · exact hi
  · cases hi
theorem add_lit (b off m : Nat) : (⟨b, off, none⟩ : Addr).add m = ⟨b, off + m, none⟩ := Addr.add_lit b off m
theorem RdS.drop (h : RdS L w a n cap xs) (k : Nat) (hk : k ≤ n) : RdS L w (if cap = k then a else a.map (·.add (k * L.sz))) (n - k) (cap - k) (xs.drop k) := by
  obtain ⟨⟨h1, h2, h3, h4⟩, h5⟩ := h
  refine ⟨⟨by rw [List.length_drop]; omega, by omega, by omega, fun ha => ?_⟩, fun hn => ?_⟩
  · have ha' : a = none := by
      split at ha
      · exact ha
      · cases a with
        | none => rfl
        | some p => cases ha
    have := h4 ha'
    omega
  · obtain ⟨b, off, e, hc⟩ := h5 (by omega)
    refine ⟨b, off + k * L.sz, ?_, fun i x hi j u hj => ?_⟩
    · rw [if_neg (by omega), e]
      simp [add_lit]
    · rw [List.getElem?_drop] at hi
      have := hc (k + i) x hi j u hj
      rw [Nat.add_mul] at this
      rw [show off + k * L.sz + (i * L.sz + j) = off + (k * L.sz + i * L.sz + j) by omega]
      exact this
theorem RdS.news (h : RdS L w a n cap xs) : ∀ p, a = some p → ∀ j u, (xs.flatMap L.cells)[j]? = some u → w.cell? (p.add j) = some u := by
  intro p hp j u hu
  have hs := L.pos
  have hd := Nat.div_add_mod j L.sz
  have hm := Nat.mod_lt j hs
  rw [Nat.mul_comm] at hd
  have hf := flat_at L xs (j / L.sz) (j % L.sz) hm
  rw [hd, hu] at hf
  cases hx : xs[j / L.sz]? with
  | none => rw [hx] at hf; cases hf
  | some x =>
    rw [hx] at hf
    have hlt : j / L.sz < n := by have := (List.getElem?_eq_some_iff.1 hx).1; rw [h.1.1] at this; exact this
    obtain ⟨b, off, e, hc⟩ := h.2 (Nat.lt_of_le_of_lt (Nat.zero_le _) hlt)
    rw [hp] at e
    obtain rfl := Option.some.inj e
    rw [Addr.add_lit]
    have := hc _ x hx _ u hf.symm
    rw [hd] at this
    exact this
theorem RdS.alloc (h : RdS L w a n cap xs) (o : Obj) : RdS L (w.alloc o) a n cap xs := h.below ((Below.refl _ _).alloc (Nat.le_refl _) _)
theorem RdS.nil (h : RdS L w a n cap xs) : a = none → n = 0 ∧ cap = 0 := h.1.2.2.2
theorem RdS.len (h : RdS L w a n cap xs) : (xs.flatMap L.cells).length = n * L.sz := by rw [flat_len, h.1.1]
end

/-- An empty literal. -/
theorem own_nil (w : World) (e : TypeId) (size base g : Nat) (hg : w.heap.size = g) (hb : base ≤ g) : (w.alloc (.cells #[] e)).ownsRow base e size (.slice (some ⟨g, 0, none⟩) 0 0) 0 [] := by
  subst hg
  exact World.ownsRow_lit (size := size) w #[] 0 hb (by simp [maxLen]) (by simp)
/-- 'append(out, xs...)' at a step of a region that draws: out the call's own, xs whatever: nil, empty or not. -/
theorem step_append_src {P : Program} {w : World} {ops : Array Oper} {o : Oper} {a : Act} {K : Act → World → Prop} {Q : Exit → Act → World → Prop} {E : Prop} (hgd : o.guard = none) (s x : Operand) (t : TypeId)
    (ho : o.op = .call { callee := .builtin .append, args := #[s, x], argTypes := #[t, t] })
    (base : Nat) (e : TypeId) (i : TypeInfo) (z : Value) (size bytes : Nat) (ht : P.underlying t = some (.slice e)) (hi : P.info? e = some i) (hz : i.zero = some z)
    (hsize : i.size = size) (hby : i.bytes = bytes) (hzs : z.cells.size = size) (hsz : 0 < size)
    (v : Value) (n : Nat) (xs : List Value) (hs : a.eval s = v) (hown : w.ownsRow base e size v n xs)
    (ad : Option Addr) (m c : Nat) (news : List Value) (hx : a.eval x = .slice ad m c) (hl : news.length = m * size) (hnil : ad = none → m = 0 ∧ c = 0)
    (hnews : ∀ p, ad = some p → ∀ j u, news[j]? = some u → w.cell? (p.add j) = some u) (h1 : ∀ u ∈ news, u.oneCell' = true)
    (h63 : n + m ≤ maxLen) (hbytes : (n + m) * bytes ≤ 140737488355328) (hbase : base ≤ w.heap.size)
    (h : ∀ v' w', w'.ownsRow base e size v' (n + m) (xs ++ news) → w.grownBy w' v.ownBlock → K (a.put o.dst v') w') :
    if Region.wanted o (yielded ops a.tmps) = true then Oper.wp P o a w K Q else E := by
  have hw : Region.wanted o (yielded ops a.tmps) = true := by simp [Region.wanted, hgd]
  rw [if_pos hw]
  cases ad with
  | some p => exact wp_append_own w s x t ho base e i z size bytes ht hi hz hsize hby hzs hsz v n xs hs hown p m c news hx hl (hnews p rfl) h1 h63 hbytes hbase fun v' w' p1 p2 _ => h v' w' p1 p2
  | none =>
    obtain ⟨rfl, rfl⟩ := hnil rfl
    have hn : news = [] := List.eq_nil_of_length_eq_zero (by simpa using hl)
    subst hn
    have hrun := run_append_owned_none (P := P) (w := w) base t o.type e i size ht hi v n xs hown
    unfold Oper.wp
    simp [execOp, ho, resolve, invoke, builtin, hs, hx, hrun, Result.andThen]
    exact h v w (by simpa using hown) (World.grownBy.refl _ _)
end Go.Proofs.YtfefggcfeppeiaaGreat

/- The model's LeafOf: a leaf of the items, in order. -/
namespace Go.Proofs.YtfefggcfeppeiaaGreat
open Go.RowKit
attribute [local go_sem ↓] Go.wp_at_zero Go.wp_at_succ

theorem cell_of_heap {w w' : World} {q : Nat} (h : w'.heap[q]? = w.heap[q]?) (o : Nat) : w'.cell? ⟨q, o, none⟩ = w.cell? ⟨q, o, none⟩ := by
  unfold World.cell?
  simp only [h]
theorem frozen_of_heap {w w' : World} {q : Nat} (h : w'.heap[q]? = w.heap[q]?) (o : Nat) : w'.frozen? ⟨q, o, none⟩ = w.frozen? ⟨q, o, none⟩ := by
  unfold World.frozen?
  simp only [h]
theorem cells_set1 {w : World} {q : Nat} {a b : Value} (h : ∀ o, w.cell? ⟨q, o, none⟩ = #[a, b][o]?) (v : Value) : ∀ o, (w.setCell ⟨q, 1, none⟩ v).cell? ⟨q, o, none⟩ = #[a, v][o]? := by
  intro o
  rcases (by omega : o = 0 ∨ o = 1 ∨ 2 ≤ o) with rfl | rfl | ho
  · rw [World.cell?_setCell_other _ _ _ _ (by simp), h 0]; rfl
  · exact World.cell?_setCell_same w ⟨q, 1, none⟩ v (u := b) (h 1)
  · rw [World.cell?_setCell_other _ _ _ _ (fun e => by cases e; omega), h o]
    rw [Array.getElem?_eq_none (by simp; omega), Array.getElem?_eq_none (by simp; omega)]
theorem ownS_none (w : World) (e : TypeId) (base : Nat) : OwnS itLay e w base (.slice none 0 0) [] := ⟨rfl, .inl ⟨rfl, rfl⟩⟩
theorem ownS_more {w : World} {e : TypeId} {base : Nat} {v : Value} {xs : List It} {x : It} {k : Nat} (hx : xs[k]? = some x) (h : w.ownsRow base e 5 v ((xs.take k).length + 1) ((xs.take k).flatMap itLay.cells ++ itLay.cells x)) : OwnS itLay e w base v (xs.take (k + 1)) := by
  show w.ownsRow base e 5 v _ _
  rw [List.take_add_one, hx, List.length_append, List.flatMap_append]
  simpa using h

theorem app_cell {wr w2 : World} {O : Obj} {v : Value} {B q : Nat} {fo : Nat → Option Value} (hg : (wr.alloc O).drew.grownBy w2 v.ownBlock) (hrow : ∀ j, v.ownBlock = some j → B ≤ j) (h : ∀ o, wr.cell? ⟨q, o, none⟩ = fo o) (hs : q + 1 ≤ wr.heap.size) (hb : q < B := by omega) : ∀ o, w2.cell? ⟨q, o, none⟩ = fo o := by
  intro o
  have hq : q < wr.heap.size := by omega
  have hne : some q ≠ v.ownBlock := fun e => by have := hrow q e.symm; omega
  have hblk : w2.heap[q]? = wr.heap[q]? := (hg.block q (by simp; omega) hne).trans (Below.heap_alloc wr O q hq)
  rw [← h o]
  exact cell_of_heap hblk o
theorem app_frozen {wr w2 : World} {O : Obj} {v : Value} {B q : Nat} {m : Nat → Bool} (hg : (wr.alloc O).drew.grownBy w2 v.ownBlock) (hrow : ∀ j, v.ownBlock = some j → B ≤ j) (h : ∀ o, wr.frozen? ⟨q, o, none⟩ = m o) (hs : q + 1 ≤ wr.heap.size) (hb : q < B := by omega) : ∀ o, w2.frozen? ⟨q, o, none⟩ = m o := by
  intro o
  have hq : q < wr.heap.size := by omega
  have hne : some q ≠ v.ownBlock := fun e => by have := hrow q e.symm; omega
  have hblk : w2.heap[q]? = wr.heap[q]? := (hg.block q (by simp; omega) hne).trans (Below.heap_alloc wr O q hq)
  rw [← h o]
  exact frozen_of_heap hblk o

set_option maxHeartbeats 3200000 in
set_option maxRecDepth 100000 in
theorem sLeafOf_any (a : Option Addr) (n cap : Nat) (xs : List It) (w : World) (h : RdS itLay w a n cap xs) (hn : n ≤ 1099511627776) :
    Calls Tryz.prog 77 #[.slice a n cap] w (NewNode true xs w) := by
  obtain ⟨i0, hi, hz0, hz1, hz2⟩ := info_parts Tryz.infoEntry
  replace hi := Lib.hid hi
  replace hz0 := Lib.hid hz0
  replace hz1 := Lib.hid hz1
  replace hz2 := Lib.hid hz2
  have hm := h.1.2.2.1
  have hnc := h.1.2.1
  unfold maxLen at hm
  have HR := Lib.hid h
  have HL := Lib.hid h.1.1
  clear h
  have K := Lib.hid (blk_alloc (.cells #[.bool true, .slice none 0 0] 59) (by simp) _ _ (blk_new w #[.bool false, .slice none 0 0] 59))
  have J := Lib.hid (blk_new1 w (.cells #[.bool false, .slice none 0 0] 59) #[.bool true, .slice none 0 0] 59)
  have B0 : Below w.heap.size w ((w.alloc (.cells #[.bool false, .slice none 0 0] 59)).alloc (.cells #[.bool true, .slice none 0 0] 59)) := ((Below.refl _ _).alloc (Nat.le_refl _) _).alloc (by simp) _
  have hne : w.heap.size ≠ w.heap.size + 1 := by omega
  go_enter Tryz.func77, Tryz.ntmps77
  go_wp2
  go_loopw [4] (fun i wr => ∃ k v, k ≤ n ∧ i = .int .i64 (k : Int) ∧ (∀ o, wr.cell? ⟨w.heap.size, o, none⟩ = #[Value.bool false, .slice none 0 0][o]?) ∧ (∀ o, wr.frozen? ⟨w.heap.size, o, none⟩ = false) ∧ (∀ o, wr.cell? ⟨w.heap.size + 1, o, none⟩ = #[Value.bool true, v][o]?) ∧ (∀ o, wr.frozen? ⟨w.heap.size + 1, o, none⟩ = false) ∧ OwnS itLay 77 wr (w.heap.size + 1 + 1) v (xs.take k) ∧ Below w.heap.size w wr ∧ w.heap.size + 1 + 1 ≤ wr.heap.size) (fun i _ => n - (intOf i).toNat)
  case atStart => exact ⟨0, .slice none 0 0, Nat.zero_le _, rfl, K.out.1, K.out.2, J.out.1, J.out.2, ownS_none _ _ _, B0, by simp⟩
  case round =>
    obtain ⟨k, v, hk, rfl, k0, f0, j0, g0, ho, hB, hS⟩ := hrel
    obtain ⟨va, vc, rfl, hr⟩ := OwnS.rd ho
    have htl : (xs.take k).length = k := by rw [List.length_take, HL.out]; omega
    rw [htl] at ho j0 hr
    have ho' : wr.ownsRow (w.heap.size + 1 + 1) 77 5 (.slice va k vc) k ((xs.take k).flatMap itLay.cells) := by
      have := ho
      unfold OwnS at this
      rw [htl] at this
      exact this
    by_cases hlt : k < n
    · obtain ⟨b, off, x, rfl, hbl, hx, d0, d1, d2, d3, d4⟩ := rdIt_at (HR.out.below hB) hlt
      have HX := Lib.hid hx
      have HO := Lib.hid ho'
      have c1 := j0 1
      simp at c1
      have hrow : ∀ j, (Value.slice va k vc).ownBlock = some j → w.heap.size + 1 + 1 ≤ j := fun j hj => (HO.out.lt j hj).1
      have hvb : b < w.heap.size := HR.out.lt (by omega) rfl
      have z0 : (0 : Int) ≤ k := by omega
      have z1 : (k : Int) < n := by omega
      have hq1 : w.heap.size + 1 < wr.heap.size := by omega
      have hq2 : w.heap.size + 1 ≠ wr.heap.size := by omega
      have hq3 : b < wr.heap.size := by omega
      have hq4 : b ≠ wr.heap.size := by omega
      have l1 := (World.cell?_alloc_lt wr (.cells #[.int .i64 x.id, .int .i64 x.x0, .int .i64 x.y0, .int .i64 x.x1, .int .i64 x.y1] 77) ⟨w.heap.size + 1, 1, none⟩ hq1).trans c1
      have htk := Lib.hid htl
      clear hr hx ho ho' htl
      go_wp2_with fail
      go_region_law ((refine step_append_src rfl (.tmp 13) (.tmp 25) 57 rfl (w.heap.size + 1 + 1) 77 i0 _ 5 40 Tryz.underlying57 hi.out hz0.out hz1.out hz2.out rfl (by decide) (.slice va k vc) k ((xs.take k).flatMap itLay.cells) (by simp [Act.eval]) (World.ownsRow.drew (World.ownsRow.alloc HO.out (.cells #[.int .i64 x.id, .int .i64 x.x0, .int .i64 x.y0, .int .i64 x.x1, .int .i64 x.y1] 77))) (some ⟨wr.heap.size, 0, none⟩) 1 1 (itLay.cells x) (by simp [Act.eval]) rfl (fun h => by cases h) (fun p hp => by cases hp; exact World.news_of_block (cs := #[.int .i64 x.id, .int .i64 x.x0, .int .i64 x.y0, .int .i64 x.x1, .int .i64 x.y1]) (t := 77) (fr := (0, 0)) (heap_alloc_new wr _)) (itLay.one x) (by unfold maxLen; omega) (by omega) (by simp; omega) ?_); intro v2 w2 o2 g2; have c2 := app_cell g2 hrow j0 hS; have e2 := app_frozen g2 hrow g0 hS; have c3 := app_cell g2 hrow k0 (by omega); have e3 := app_frozen g2 hrow f0 (by omega); obtain ⟨ra, rc, rfl⟩ := owns_shape o2)
      all_goals
        have O3 := Lib.hid (ownS_set (ownS_more HX.out (by rw [htk.out]; exact o2)) (g := w.heap.size + 1) (fun hj => by have := (o2.lt _ hj).1; omega) 1 (.slice ra (k + 1) rc))
        have B3 := Lib.hid ((((hB.alloc (by omega) (.cells #[.int .i64 x.id, .int .i64 x.x0, .int .i64 x.y0, .int .i64 x.x1, .int .i64 x.y1] 77)).drew).grown g2 (by simp; omega) (fun j hj => by have := hrow j hj; omega)).setCell (p := ⟨w.heap.size + 1, 1, none⟩) (show w.heap.size ≤ w.heap.size + 1 by omega) (.slice ra (k + 1) rc))
        have C3 := Lib.hid (cells_set1 c2 (.slice ra (k + 1) rc))
        have S3 := g2.size
        simp at S3
        clear o2
        go_wp2
        go_roundw
        case rel =>
          refine ⟨k + 1, .slice ra (k + 1) rc, by omega, by go_num, fun o => ?_, fun o => ?_, C3.out, fun o => ?_, O3.out, B3.out, by simp; omega⟩
          · exact (World.cell?_setCell_other _ _ _ _ (by simp)).trans (c3 o)
          · exact (World.frozen?_setCell _ _ _ _).trans (e3 o)
          · exact (World.frozen?_setCell _ _ _ _).trans (e2 o)
        case measure => simp [intOf]; omega
    · obtain rfl : k = n := by omega
      have hall : xs.take k = xs := List.take_of_length_le (by rw [HL.out]; exact Nat.le_refl _)
      have hlk : Hid (xs.length = k) := HL.out
      have HO := Lib.hid ho
      clear ho ho' hr htl
      go_wp2
      refine bodyPost_ret (v := .agg #[.bool true, .slice va k vc]) (by simp [results, Tryz.results77, go_sem, k0]) rfl ⟨_, rfl, ?_, ?_⟩
      · rw [hall] at HO
        have O := ownS_set (ownS_set HO.out (g := w.heap.size) (fun hj => by have := (HO.out.lt _ hj).1; omega) 0 (.bool true)) (g := w.heap.size) (fun hj => by have := (HO.out.lt _ hj).1; omega) 1 (.slice va k vc)
        exact OwnS.mono (L := itLay) O (by omega)
      · exact (hB.setCell (p := ⟨w.heap.size, 0, none⟩) (Nat.le_refl _) _).setCell (p := ⟨w.heap.size, 1, none⟩) (Nat.le_refl _) _
end Go.Proofs.YtfefggcfeppeiaaGreat
