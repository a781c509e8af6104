/- The laws' own helpers on slices of items: how many, a copy, equality. -/
import Derived.Test.YtckdkijhkgicnaaRow
import Derived.Test.YtckdkijhkgicnaaItem
import Derived.Deep.RegionWith
namespace Go.Proofs.Ytckdkijhkgicnaa
open Go.RowKit

theorem Try.infoItem : (Try.prog.info? 82).map (fun i => (i.zero, i.size, i.bytes)) = some (some (.agg #[.int .i64 0, .int .i64 0, .int .i64 0, .int .i64 0, .int .i64 0]), 5, 40) := by kernel_rfl

def zeroIt : It := ⟨0, 0, 0, 0, 0⟩
/-- The first k of xs, then zeros, n in all. -/
def copiedI (xs : List It) (n k : Nat) : List It := gen n fun j => if j < k then xs.getD j zeroIt else zeroIt
theorem copiedI_set (xs : List It) (n k : Nat) (x : It) (hx : xs[k]? = some x) : copiedI xs n (k + 1) = (copiedI xs n k).set k x := by
  unfold copiedI
  rw [gen_set]
  refine gen_congr n _ _ fun j _ => ?_
  by_cases h : j = k
  · subst h; simp [List.getD, hx]
  · rw [if_neg h]
    by_cases h' : j < k
    · rw [if_pos h', if_pos (by omega)]
    · rw [if_neg h', if_neg (by omega)]
theorem copiedI_start (xs : List It) (n : Nat) : copiedI xs n 0 = List.replicate n zeroIt := by
  unfold copiedI gen
  simp [List.map_const']
theorem copiedI_end (xs : List It) (n : Nat) (h : xs.length = n) : copiedI xs n n = xs := by
  rw [← gen_list xs zeroIt n h]
  unfold copiedI
  refine gen_congr n _ _ fun j hj => ?_
  rw [if_pos hj, gen_list xs zeroIt n h]
theorem copiedI_len (xs : List It) (n k : Nat) : (copiedI xs n k).length = n := gen_length _ _

/-- One element is written: its four cells, one by one. -/
theorem flat_setI (xs : List It) (k : Nat) (x : It) (hk : k < xs.length) :
    (((((xs.flatMap itLay.cells).set (k * 5) (.int .i64 x.id)).set (k * 5 + 1) (.int .i64 x.x0)).set (k * 5 + 2) (.int .i64 x.y0)).set (k * 5 + 3) (.int .i64 x.x1)).set (k * 5 + 4) (.int .i64 x.y1) = (xs.set k x).flatMap itLay.cells := by
  induction xs generalizing k with
  | nil => simp at hk
  | cons y l ih =>
    cases k with
    | zero => simp [itLay, List.flatMap_cons]
    | succ k =>
      have := ih k (by simpa using hk)
      simp only [List.flatMap_cons, List.set_cons_succ]
      rw [← this]
      have e : ∀ (j : Nat) (u : Value) (t : List Value), (itLay.cells y ++ t).set ((k + 1) * 5 + j) u = itLay.cells y ++ t.set (k * 5 + j) u := by
        intro j u t
        rw [List.set_append_right _ _ (by show 5 ≤ _; omega)]
        show itLay.cells y ++ t.set ((k + 1) * 5 + j - 5) u = _
        rw [show (k + 1) * 5 + j - 5 = k * 5 + j by omega]
      have e0 := e 0
      simp only [Nat.add_zero] at e0
      rw [e0, e 1, e 2, e 3, e 4]

theorem madeI (n : Nat) : (madeCells #[Value.int .i64 0, .int .i64 0, .int .i64 0, .int .i64 0, .int .i64 0] (n * 5)).toList = (List.replicate n zeroIt).flatMap itLay.cells := by
  apply List.ext_getElem?
  intro j
  have hr := Nat.div_add_mod j 5
  have hlt := Nat.mod_lt j (show 0 < 5 by omega)
  have hf := flat_at itLay (List.replicate n zeroIt) (j / 5) (j % 5) hlt
  rw [show j / 5 * itLay.sz + j % 5 = j by show j / 5 * 5 + j % 5 = j; omega] at hf
  rw [hf]
  by_cases hj : j < n * 5
  · have h4 : j / 5 < n := by omega
    rw [List.getElem?_replicate, if_pos h4]
    simp only [Option.bind_some]
    rcases (by omega : j % 5 = 0 ∨ j % 5 = 1 ∨ j % 5 = 2 ∨ j % 5 = 3 ∨ j % 5 = 4) with h | h | h | h | h <;> simp [madeCells, hj, h, itLay, zeroIt]
  · have h4 : ¬ j / 5 < n := by omega
    rw [List.getElem?_replicate, if_neg h4]
    simp [madeCells, hj]

/-- An owned rectangle's four cells. -/
theorem ownIt_at {w : World} {base : Nat} {e : TypeId} {g n cap i : Nat} {xs : List It} (h : w.ownsRow base e itLay.sz (.slice (some ⟨g, 0, none⟩) n cap) n (xs.flatMap itLay.cells)) (hl : xs.length = n) (hi : i < n) :
    ∃ x : It, w.cell? ⟨g, i * 5, none⟩ = some (.int .i64 x.id) ∧ w.cell? ⟨g, i * 5 + 1, none⟩ = some (.int .i64 x.x0) ∧ w.cell? ⟨g, i * 5 + 2, none⟩ = some (.int .i64 x.y0) ∧ w.cell? ⟨g, i * 5 + 3, none⟩ = some (.int .i64 x.x1) ∧ w.cell? ⟨g, i * 5 + 4, none⟩ = some (.int .i64 x.y1) := by
  subst hl
  obtain ⟨a, c, hv, hr⟩ := OwnS.rd (L := itLay) (e := e) (xs := xs) h
  obtain ⟨b, off, x, e1, _, _, d0, d1, d2, d3, d4⟩ := rdIt_at hr hi
  simp only [Value.slice.injEq] at hv
  obtain ⟨rfl, -, rfl⟩ := hv
  obtain ⟨rfl, rfl⟩ : g = b ∧ 0 = off := by simpa using e1
  simp only [Nat.zero_add] at d0 d1 d2 d3 d4
  exact ⟨x, d0, d1, d2, d3, d4⟩

set_option maxHeartbeats 400000 in
/-- laws.szItemS: what is left of a number, less the length; -1 where too much. -/
theorem szItemS_any (a : Option Addr) (n cap : Nat) (left : Int) (w : World) (hn : n ≤ maxLen) (hl : 0 ≤ left ∧ left ≤ 1048576) :
    Calls Try.prog 42 #[.slice a n cap, .int .i64 left] w fun e w' => e = .returned (.int .i64 (if left - n < 0 then -1 else left - n)) ∧ w = w' := by
  unfold maxLen at hn
  obtain ⟨l0, l1⟩ := hl
  by_cases h : left - n < 0
  · rw [if_pos h]
    go_enter Try.func42, Try.ntmps42
    go_wp2
    go_ret
    exact ⟨rfl, rfl⟩
  · rw [if_neg h]
    go_enter Try.func42, Try.ntmps42
    go_wp2
    go_ret
    exact ⟨rfl, rfl⟩

/-- A slice of rectangles in new memory. -/
def NewItems (xs : List It) (w : World) (e : Ending) (w' : World) : Prop := ∃ v, e = .returned v ∧ OwnS itLay 82 w' w.heap.size v xs ∧ Below w.heap.size w w'

set_option maxHeartbeats 800000 in
/-- laws.toItemS: a copy in new memory. -/
theorem toItemS_any (a : Option Addr) (n cap : Nat) (xs : List It) (w : World) (h : RdS itLay w a n cap xs) (hn : n ≤ 4398046511104) :
    Calls Try.prog 43 #[.slice a n cap] w (NewItems xs w) := by
  obtain ⟨i0, hi, hz0, hz1, hz2⟩ := info_parts Try.infoItem
  have HR := Lib.hid h; clear h
  replace hz2 := Lib.hid hz2
  have hnc := HR.out.1.2.1
  go_enter Try.func43, Try.ntmps43
  go_wp2_with (at_make; refine wpList_make_full _ rfl _ _ 32 rfl w.heap.size 82 i0 (.agg #[.int .i64 0, .int .i64 0, .int .i64 0, .int .i64 0, .int .i64 0]) 5 Try.underlying32 hi hz0 hz1 .i64 .i64 (n : Int) (n : Int) n rfl rfl rfl rfl ?_ ?_ ?_ ?_)
  case refine_1 => rw [hz2.out]; omega
  case refine_2 => unfold maxLen; omega
  case refine_3 => exact Nat.le_refl _
  intro w1 hown hgrow
  have hb := grownNone_below hgrow
  clear hgrow
  rw [madeI] at hown
  go_wp2
  go_loopw [4] (fun i wr => ∃ k : Nat, k ≤ n ∧ i = .int .i64 k ∧
      wr.ownsRow w.heap.size 82 5 (.slice (some ⟨w.heap.size, 0, none⟩) n n) n ((copiedI xs n k).flatMap itLay.cells) ∧ Below w.heap.size w wr)
    (fun i _ => n - (intOf i).toNat)
  case atStart => exact ⟨0, Nat.zero_le _, rfl, by rw [copiedI_start]; exact hown, hb⟩
  case round =>
    obtain ⟨k, hk, rfl, ho, hB⟩ := hrel
    by_cases hlt : k < n
    · obtain ⟨b, off, x, rfl, hbl, hx, d0, d1, d2, d3, d4⟩ := rdIt_at (HR.out.below hB) hlt
      have hst := Lib.hid (copiedI_set xs n k x hx)
      have hl := copiedI_len xs n k
      have HO := Lib.hid ho
      clear ho hx
      have z0 : (0 : Int) ≤ k := by omega
      have z1 : (k : Int) < n := by omega
      go_wp2_with fail
      refine (toItem_any _ _ _ _ _ _).mono ?_
      rintro e w2 ⟨rfl, hj⟩
      have HO2 := OwnS.kept (L := itLay) (xs := copiedI xs n k) (by unfold OwnS; rw [hl]; exact HO.out) (Below.toGrown hj none) (.inr (by simp [Value.ownBlock]))
      unfold OwnS at HO2
      rw [hl] at HO2
      obtain ⟨y, e0, e1, e2, e3, e4⟩ := ownIt_at HO2 hl hlt
      have hfz := HO2.frozenAt
      have hbl2 : w.heap.size < w2.heap.size := by
        have := HO2.lt w.heap.size rfl
        omega
      have H2 := Lib.hid HO2
      clear HO2
      go_wp2
      go_roundw
      case rel =>
        refine ⟨k + 1, by omega, by go_num, ?_, (((((hB.trans (hj.mono hB.size)).setCell (p := ⟨w.heap.size, _, none⟩) (Nat.le_refl _) _).setCell (p := ⟨w.heap.size, _, none⟩) (Nat.le_refl _) _).setCell (p := ⟨w.heap.size, _, none⟩) (Nat.le_refl _) _).setCell (p := ⟨w.heap.size, _, none⟩) (Nat.le_refl _) _).setCell (p := ⟨w.heap.size, _, none⟩) (Nat.le_refl _) _⟩
        rw [hst.out, ← flat_setI _ k x (by omega)]
        exact (((((((H2.out.stored _ _).1).stored _ _).1).stored _ _).1.stored _ _).1.stored _ _).1
      case measure => simp [intOf]; omega
    · have HF : Hid (copiedI xs n k = xs) := by
        obtain rfl : k = n := by omega
        exact copiedI_end xs k HR.out.1.1
      go_wp2
      go_ret
      refine ⟨_, rfl, ?_, hB⟩
      unfold OwnS
      rw [HR.out.1.1]
      rw [HF.out] at ho
      exact ho

set_option maxHeartbeats 800000 in
/-- laws.eqItemS: two slices that read alike. -/
theorem eqItemS_same (a b : Option Addr) (n c1 c2 : Nat) (xs : List It) (w : World) (h : RdS itLay w a n c1 xs) (h' : RdS itLay w b n c2 xs) (hn : n ≤ 4398046511104) :
    Calls Try.prog 38 #[.slice a n c1, .slice b n c2] w fun e w' => e = .returned (.bool true) ∧ Below w.heap.size w w' := by
  have HR := Lib.hid h; clear h
  have HR' := Lib.hid h'; clear h'
  have hnc := HR.out.1.2.1
  have hnc' := HR'.out.1.2.1
  go_enter Try.func38, Try.ntmps38
  go_wp2
  go_loopw [5] (fun i wr => ∃ k : Nat, k ≤ n ∧ i = .int .i64 k ∧ Below w.heap.size w wr) (fun i _ => n - (intOf i).toNat)
  case atStart => exact ⟨0, Nat.zero_le _, rfl, Below.refl _ _⟩
  case round =>
    obtain ⟨k, hk, rfl, hB⟩ := hrel
    by_cases hlt : k < n
    · obtain ⟨g, off, x, rfl, hgl, hx, d0, d1, d2, d3, d4⟩ := rdIt_at (HR.out.below hB) hlt
      obtain ⟨g', off', x', rfl, hgl', hx', p0, p1, p2, p3, p4⟩ := rdIt_at (HR'.out.below hB) hlt
      obtain rfl : x = x' := by rw [hx] at hx'; simpa using hx'
      have he := itEq_self x
      have z0 : (0 : Int) ≤ k := by omega
      have z1 : (k : Int) < n := by omega
      clear hx hx'
      go_wp2
      go_region_with ((with_reducible refine (eqItem_any _ _ _).mono ?_); rintro e w1 ⟨rfl, hj⟩)
      all_goals
        go_wp2
        go_roundw
        case rel => exact ⟨k + 1, by omega, by go_num, hB.drew.trans (hj.mono hB.size)⟩
        case measure => simp [intOf]; omega
    · go_wp2
      go_ret
      exact ⟨rfl, hB⟩
end Go.Proofs.Ytckdkijhkgicnaa
