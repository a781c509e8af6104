/- Texts of this seat laid together: ItemAt, Slice, Draw, Form, Entry, EntryS, EntryAt, ItemM, EntryM, Apart, Node, NodeOk, FormN, FormE, LeafOf. -/
import Derived.Test.YtfgmjegemlkkkaaMa
import Derived.Deep.RegionHeld3
import Derived.Deep.AppendLies
import Derived.Laws.OwnMore
import Derived.BigRegion
import Derived.Deep.RegionLaw
import Derived.Deep.DrawnRows

/- Where in a slice of items an Id stands. -/
namespace Go.Proofs.Ytfgmjegemlkkkaa
open Go.RowKit

def atV (id : Int) : List It → Int → Int
  | [], _ => -1
  | x :: l, k => if x.id = id then k else atV id l (k + 1)
theorem drop_at {xs : List It} {k : Nat} {x : It} (hx : xs[k]? = some x) : xs.drop k = x :: xs.drop (k + 1) := by
  obtain ⟨hlt, rfl⟩ := List.getElem?_eq_some_iff.1 hx
  exact List.drop_eq_getElem_cons hlt
theorem atV_yes {xs : List It} {k : Nat} {x : It} (id : Int) (hx : xs[k]? = some x) (h : x.id = id) : atV id (xs.drop k) k = k := by rw [drop_at hx, atV, if_pos h]
theorem atV_no {xs : List It} {k : Nat} {x : It} (id : Int) (hx : xs[k]? = some x) (h : x.id ≠ id) : atV id (xs.drop k) k = atV id (xs.drop (k + 1)) ((k + 1 : Nat) : Int) := by rw [drop_at hx, atV, if_neg h]; simp
theorem atV_end (xs : List It) (n : Nat) (id : Int) (h : xs.length ≤ n) : atV id (xs.drop n) n = -1 := by rw [List.drop_eq_nil_of_le h]; rfl
theorem ret_i64' {a b : Int} (h : a = b) : Ending.returned (.int .i64 a) = .returned (.int .i64 b) := by rw [h]

set_option maxRecDepth 100000 in
set_option maxHeartbeats 800000 in
theorem sItemAt_any (a : Option Addr) (n cap : Nat) (xs : List It) (id : Int) (w : World) (h : RdS itLay w a n cap xs) :
    Calls Try.prog 81 #[.slice a n cap, .int .i64 id] w fun e w' => e = .returned (.int .i64 (atV id xs 0)) ∧ Below w.heap.size w w' := by
  have hm := h.1.2.2.1
  have hnc := h.1.2.1
  unfold maxLen at hm
  have HR := Lib.hid h
  have HL := Lib.hid h.1.1
  clear h
  go_enter Try.func81, Try.ntmps81
  go_wp2
  go_loopw [5] (fun i wr => ∃ k : Nat, k ≤ n ∧ i = .int .i64 k ∧ atV id xs 0 = atV id (xs.drop k) k ∧ wr = w) (fun i _ => n - (intOf i).toNat)
  case atStart => exact ⟨0, Nat.zero_le _, rfl, rfl, rfl⟩
  case round =>
    obtain ⟨k, hk, rfl, hA, rfl⟩ := hrel
    have HA := Lib.hid hA
    clear hA
    by_cases hlt : k < n
    · obtain ⟨b, off, x, rfl, hbl, hx, d0, d1, d2, d3, d4⟩ := rdIt_at HR.out hlt
      have HX := Lib.hid hx
      have z0 : (0 : Int) ≤ k := by omega
      have z1 : (k : Int) < n := by omega
      clear hx
      by_cases h : x.id = id
      · have hr := Lib.hid (HA.out.trans (atV_yes id HX.out h))
        have h' : (x.id == id) = true := by simpa using h
        clear h
        go_wp2
        go_ret
        exact ⟨ret_i64' hr.out.symm, Below.refl _ _⟩
      · have hr := Lib.hid (HA.out.trans (atV_no id HX.out h))
        have h' : (x.id == id) = false := by simpa using h
        clear h
        go_wp2
        go_roundw
        case rel => exact ⟨k + 1, by omega, by go_num, hr.out, by trivial⟩
        case measure => simp [intOf]; omega
    · have hr : Hid (atV id xs 0 = -1) := by
        obtain rfl : k = n := by omega
        exact HA.out.trans (atV_end xs k id (by rw [HL.out]; exact Nat.le_refl _))
      go_wp2
      go_ret
      exact ⟨ret_i64' hr.out.symm, Below.refl _ _⟩
end Go.Proofs.Ytfgmjegemlkkkaa

/- Slices of slices: what l[:k] and l[k:] read; append from any source at a step of a region that draws. -/
namespace Go.Proofs.Ytfgmjegemlkkkaa
open Go.RowKit

section
variable {α : Type} {L : Lay α} {w w' : World} {a : Option Addr} {n cap : Nat} {xs : List α}
theorem RdS.take (h : RdS L w a n cap xs) (k : Nat) (hk : k ≤ n) : RdS L w a k cap (xs.take k) := by
  obtain ⟨⟨h1, h2, h3, h4⟩, h5⟩ := h
  refine ⟨⟨by rw [List.length_take]; omega, by omega, h3, fun ha => ⟨by have := (h4 ha).1; omega, (h4 ha).2⟩⟩, fun hn => ?_⟩
  obtain ⟨b, off, e, hc⟩ := h5 (by omega)
  refine ⟨b, off, e, fun i x hi => hc i x ?_⟩
  rw [List.getElem?_take] at hi
  split at hi
  · exact hi
  · cases hi
theorem add_lit (b off m : Nat) : (⟨b, off, none⟩ : Addr).add m = ⟨b, off + m, none⟩ := Addr.add_lit b off m
theorem RdS.drop (h : RdS L w a n cap xs) (k : Nat) (hk : k ≤ n) : RdS L w (if cap = k then a else a.map (·.add (k * L.sz))) (n - k) (cap - k) (xs.drop k) := by
  obtain ⟨⟨h1, h2, h3, h4⟩, h5⟩ := h
  refine ⟨⟨by rw [List.length_drop]; omega, by omega, by omega, fun ha => ?_⟩, fun hn => ?_⟩
  · have ha' : a = none := by
      split at ha
      · exact ha
      · cases a with
        | none => rfl
        | some p => cases ha
    have := h4 ha'
    omega
  · obtain ⟨b, off, e, hc⟩ := h5 (by omega)
    refine ⟨b, off + k * L.sz, ?_, fun i x hi j u hj => ?_⟩
    · rw [if_neg (by omega), e]
      simp [add_lit]
    · rw [List.getElem?_drop] at hi
      have := hc (k + i) x hi j u hj
      rw [Nat.add_mul] at this
      rw [show off + k * L.sz + (i * L.sz + j) = off + (k * L.sz + i * L.sz + j) by omega]
      exact this
theorem RdS.news (h : RdS L w a n cap xs) : ∀ p, a = some p → ∀ j u, (xs.flatMap L.cells)[j]? = some u → w.cell? (p.add j) = some u := by
  intro p hp j u hu
  have hs := L.pos
  have hd := Nat.div_add_mod j L.sz
  have hm := Nat.mod_lt j hs
  rw [Nat.mul_comm] at hd
  have hf := flat_at L xs (j / L.sz) (j % L.sz) hm
  rw [hd, hu] at hf
  cases hx : xs[j / L.sz]? with
  | none => rw [hx] at hf; cases hf
  | some x =>
    rw [hx] at hf
    have hlt : j / L.sz < n := by have := (List.getElem?_eq_some_iff.1 hx).1; rw [h.1.1] at this; exact this
    obtain ⟨b, off, e, hc⟩ := h.2 (Nat.lt_of_le_of_lt (Nat.zero_le _) hlt)
    rw [hp] at e
    obtain rfl := Option.some.inj e
    rw [Addr.add_lit]
    have := hc _ x hx _ u hf.symm
    rw [hd] at this
    exact this
theorem RdS.alloc (h : RdS L w a n cap xs) (o : Obj) : RdS L (w.alloc o) a n cap xs := h.below ((Below.refl _ _).alloc (Nat.le_refl _) _)
theorem RdS.nil (h : RdS L w a n cap xs) : a = none → n = 0 ∧ cap = 0 := h.1.2.2.2
theorem RdS.len (h : RdS L w a n cap xs) : (xs.flatMap L.cells).length = n * L.sz := by rw [flat_len, h.1.1]
end

/-- An empty literal. -/
theorem own_nil (w : World) (e : TypeId) (size base g : Nat) (hg : w.heap.size = g) (hb : base ≤ g) : (w.alloc (.cells #[] e)).ownsRow base e size (.slice (some ⟨g, 0, none⟩) 0 0) 0 [] := by
  subst hg
  exact World.ownsRow_lit (size := size) w #[] 0 hb (by simp [maxLen]) (by simp)
/-- 'append(out, xs...)' at a step of a region that draws: out the call's own, xs whatever: nil, empty or not. -/
theorem step_append_src {P : Program} {w : World} {ops : Array Oper} {o : Oper} {a : Act} {K : Act → World → Prop} {Q : Exit → Act → World → Prop} {E : Prop} (hgd : o.guard = none) (s x : Operand) (t : TypeId)
    (ho : o.op = .call { callee := .builtin .append, args := #[s, x], argTypes := #[t, t] })
    (base : Nat) (e : TypeId) (i : TypeInfo) (z : Value) (size bytes : Nat) (ht : P.underlying t = some (.slice e)) (hi : P.info? e = some i) (hz : i.zero = some z)
    (hsize : i.size = size) (hby : i.bytes = bytes) (hzs : z.cells.size = size) (hsz : 0 < size)
    (v : Value) (n : Nat) (xs : List Value) (hs : a.eval s = v) (hown : w.ownsRow base e size v n xs)
    (ad : Option Addr) (m c : Nat) (news : List Value) (hx : a.eval x = .slice ad m c) (hl : news.length = m * size) (hnil : ad = none → m = 0 ∧ c = 0)
    (hnews : ∀ p, ad = some p → ∀ j u, news[j]? = some u → w.cell? (p.add j) = some u) (h1 : ∀ u ∈ news, u.oneCell' = true)
    (h63 : n + m ≤ maxLen) (hbytes : (n + m) * bytes ≤ 140737488355328) (hbase : base ≤ w.heap.size)
    (h : ∀ v' w', w'.ownsRow base e size v' (n + m) (xs ++ news) → w.grownBy w' v.ownBlock → K (a.put o.dst v') w') :
    if Region.wanted o (yielded ops a.tmps) = true then Oper.wp P o a w K Q else E := by
  have hw : Region.wanted o (yielded ops a.tmps) = true := by simp [Region.wanted, hgd]
  rw [if_pos hw]
  cases ad with
  | some p => exact wp_append_own w s x t ho base e i z size bytes ht hi hz hsize hby hzs hsz v n xs hs hown p m c news hx hl (hnews p rfl) h1 h63 hbytes hbase fun v' w' p1 p2 _ => h v' w' p1 p2
  | none =>
    obtain ⟨rfl, rfl⟩ := hnil rfl
    have hn : news = [] := List.eq_nil_of_length_eq_zero (by simpa using hl)
    subst hn
    have hrun := run_append_owned_none (P := P) (w := w) base t o.type e i size ht hi v n xs hown
    unfold Oper.wp
    simp [execOp, ho, resolve, invoke, builtin, hs, hx, hrun, Result.andThen]
    exact h v w (by simpa using hown) (World.grownBy.refl _ _)
end Go.Proofs.Ytfgmjegemlkkkaa

/- The model's draws: a cursor over the bytes that came in; each draw by a contract that tells only the range of what is drawn. -/
namespace Go.Proofs.Ytfgmjegemlkkkaa
open Go.RowKit

/-- Block g holds a cursor over the bytes zs, at place i, its hash h. -/
structure CurAt (g : Nat) (zs : List Int) (a : Option Addr) (cap : Nat) (i h : Int) (w : World) : Prop where
  bytes : ∀ z ∈ zs, 0 ≤ z ∧ z ≤ 255
  block : w.heap[g]? = some (.cells #[.slice a zs.length cap, .int .i64 i, .int .i64 h] 89 (0, 0))
  lo : 0 ≤ i
  hi : i ≤ zs.length
  wf : (Lit.int .i64 h).wf = true
  len : zs.length ≤ 1048576
  rd : RdI .u8 w a zs.length cap zs
  under : 0 < zs.length → ∀ x, a = some x → x.block < g
def Cur (g : Nat) (zs : List Int) (w : World) : Prop := ∃ a cap i h, CurAt g zs a cap i h w

theorem CurAt.keptBut {g : Nat} {zs : List Int} {a : Option Addr} {cap : Nat} {i h i' h' : Int} {w w' : World} (c : CurAt g zs a cap i h w) (hg : w.grownBy w' (some g))
    (hb : w'.heap[g]? = some (.cells #[.slice a zs.length cap, .int .i64 i', .int .i64 h'] 89 (0, 0))) (h0 : 0 ≤ i') (h1 : i' ≤ zs.length) (hw : (Lit.int .i64 h').wf = true) : CurAt g zs a cap i' h' w' := by
  refine ⟨c.bytes, hb, h0, h1, hw, c.len, ⟨c.rd.1, fun hn => ?_⟩, c.under⟩
  obtain ⟨b, off, e, hc⟩ := c.rd.2 hn
  refine ⟨b, off, e, fun j hj => ?_⟩
  have hlt2 : b < g := c.under hn _ e
  have hlt := (Array.getElem?_eq_some_iff.1 c.block).1
  rw [World.cell?_of_block (hg.block b (by omega) (fun e => by simp at e; omega))]
  exact hc j hj

theorem cur_kept {g : Nat} {zs : List Int} {w w' : World} {row : Option Nat} (h : Cur g zs w) (hg : w.grownBy w' row) (hr : ∀ k, row = some k → g < k) : Cur g zs w' := by
  obtain ⟨a, cap, i, x, c⟩ := h
  have hlt := (Array.getElem?_eq_some_iff.1 c.block).1
  refine ⟨a, cap, i, x, c.bytes, ?_, c.lo, c.hi, c.wf, c.len, ⟨c.rd.1, fun hn => ?_⟩, c.under⟩
  · rw [hg.block g hlt (fun e => by have := hr g e.symm; omega)]; exact c.block
  · obtain ⟨b, off, e, hc⟩ := c.rd.2 hn
    refine ⟨b, off, e, fun j hj => ?_⟩
    have hlt2 : b < g := c.under hn _ e
    rw [World.cell?_of_block (hg.block b (by omega) (fun e => by have := hr b e.symm; omega))]
    exact hc j hj

theorem grown_setCell {w : World} {row : Option Nat} {w' : World} (h : w.grownBy w' row) (g j : Nat) (u : Value) (hr : row = some g) : w.grownBy (w'.setCell ⟨g, j, none⟩ u) row :=
  grown_trans h ⟨rfl, rfl, rfl, by simp, fun k _ hk => heap_setCell_other w' ⟨g, j, none⟩ k u (fun e => hk (by rw [hr]; simp [e]))⟩
theorem grown_drewN {w w' : World} {row : Option Nat} (h : w.grownBy w' row) (n : Nat) : w.grownBy (w'.drewN n) row := grown_trans h ⟨rfl, rfl, rfl, Nat.le_refl _, fun _ _ _ => rfl⟩

theorem and255 (n : Int) : 0 ≤ bits .and .i64 n 255 ∧ bits .and .i64 n 255 ≤ 255 := by
  have h255 : (BitVec.ofInt 64 255).toNat = 2 ^ 8 - 1 := by decide
  have key : (BitVec.ofInt 64 n &&& BitVec.ofInt 64 255).toNat = (n % ((2 ^ 64 : Nat) : Int)).toNat % 2 ^ 8 := by
    rw [BitVec.toNat_and, BitVec.toNat_ofInt, h255, Nat.and_two_pow_sub_one_eq_mod]
  have e : bits .and .i64 n 255 = n % 256 := by
    show IntKind.i64.wrap ((BitVec.ofInt 64 n &&& BitVec.ofInt 64 255).toNat : Nat) = n % 256
    rw [key, IntKind.wrap_i64]
    omega
  rw [e]; omega

/-- What a draw leaves: a number in a range, the cursor, and all other blocks as they were. -/
def Drawn (g : Nat) (zs : List Int) (lo hi : Int) (w : World) (e : Ending) (w' : World) : Prop :=
  ∃ x : Int, e = .returned (.int .i64 x) ∧ lo ≤ x ∧ x ≤ hi ∧ Cur g zs w' ∧ w.grownBy w' (some g)

theorem wf_wrap64 (n : Int) : (Lit.int .i64 (wrap64 n)).wf = true := by rw [← IntWalk.i64_left]; exact wf_wrap .i64 n

set_option maxRecDepth 100000 in
set_option maxHeartbeats 400000 in
theorem l1Byte_any (g : Nat) (zs : List Int) (w : World) (h : Cur g zs w) :
    Calls Try.prog 72 #[.pointer (some ⟨g, 0, none⟩)] w (Drawn g zs 0 255 w) := by
  obtain ⟨a, cap, i, x, c⟩ := h
  have HC := Lib.hid c
  obtain ⟨hz, hh, h0, h1, hw, hl, hr, hb⟩ := c
  have hlt := (Array.getElem?_eq_some_iff.1 hh).1
  have c0 : w.cell? ⟨g, 0, none⟩ = some (.slice a zs.length cap) := by rw [cell_of_row w g 0 _ _ _ hh]; rfl
  have c1 : w.cell? ⟨g, 1, none⟩ = some (.int .i64 i) := by rw [cell_of_row w g 1 _ _ _ hh]; rfl
  have c2 : w.cell? ⟨g, 2, none⟩ = some (.int .i64 x) := by rw [cell_of_row w g 2 _ _ _ hh]; rfl
  have f1 : w.frozen? ⟨g, 1, none⟩ = false := frozen_of_row w g 1 _ _ hh
  have f2 : w.frozen? ⟨g, 2, none⟩ = false := frozen_of_row w g 2 _ _ hh
  have HH := Lib.hid hh
  have HZ := Lib.hid hz
  have HR := Lib.hid hr
  have HB := Lib.hid hb
  clear hh hz hr hb
  obtain ⟨y, hy⟩ : ∃ y, y = wrap64 (wrap64 (x * 6364136223846793005) + 1442695040888963407) := ⟨_, rfl⟩
  have HY := Lib.hid hy
  clear hy
  by_cases hi : i < zs.length
  · obtain ⟨b, off, rfl, hc⟩ := HR.out.2 (by omega)
    obtain ⟨m, rfl⟩ := Int.eq_ofNat_of_zero_le h0
    have hck := hc m (by omega)
    have hbg : b < g := HB.out (by omega) _ rfl
    have hng : ¬ b = g := by omega
    have hng' : ¬ g = b := by omega
    clear hc
    go_enter Try.func72, Try.ntmps72
    go_wp2
    rw [← HY.out]
    go_quiet (fail)
    go_wp2
    go_quiet (fail)
    go_wp2
    go_quiet (fail)
    go_wp2
    go_ret
    have B := and255
    refine ⟨_, rfl, (B _).1, (B _).2, ⟨_, _, (m : Int) + 1, y, HC.out.keptBut ?_ ?_ (by omega) (by omega) ?_⟩, ?_⟩
    · exact grown_setCell (grown_drewN (grown_setCell (World.grownBy.refl _ _) g 2 _ rfl) _) g 1 _ rfl
    · have e1 := heap_setCell_same w g 2 _ _ (.int .i64 y) HH.out
      exact heap_setCell_same ((w.setCell ⟨g, 2, none⟩ (.int .i64 y)).drewN _) g 1 _ _ (.int .i64 ((m : Int) + 1)) e1
    · rw [HY.out]; exact wf_wrap64 _
    · exact grown_setCell (grown_drewN (grown_setCell (World.grownBy.refl _ _) g 2 _ rfl) _) g 1 _ rfl
  · go_enter Try.func72, Try.ntmps72
    go_wp2
    rw [← HY.out]
    go_quiet (fail)
    go_wp2
    go_quiet (fail)
    go_wp2
    go_ret
    have B := and255
    refine ⟨_, rfl, (B _).1, (B _).2, ⟨_, _, i, y, HC.out.keptBut ?_ ?_ h0 h1 ?_⟩, ?_⟩
    · exact grown_drewN (grown_drewN (grown_setCell (World.grownBy.refl _ _) g 2 _ rfl) _) _
    · exact heap_setCell_same w g 2 _ _ (.int .i64 y) HH.out
    · rw [HY.out]; exact wf_wrap64 _
    · exact grown_drewN (grown_drewN (grown_setCell (World.grownBy.refl _ _) g 2 _ rfl) _) _

set_option maxRecDepth 100000 in
set_option maxHeartbeats 400000 in
/-- l1Below: a number from 0 on and below n; 0 where n is not above 0. -/
theorem l1Below_any (g : Nat) (zs : List Int) (n : Int) (w : World) (h : Cur g zs w) (hn : n ≤ 16000000) :
    Calls Try.prog 43 #[.pointer (some ⟨g, 0, none⟩), .int .i64 n] w (Drawn g zs 0 (if 0 < n then n - 1 else 0) w) := by
  by_cases h0 : n ≤ 0
  · rw [if_neg (by omega)]
    have H := Lib.hid h
    clear h
    go_enter Try.func43, Try.ntmps43
    go_wp2
    go_ret
    exact ⟨0, rfl, by omega, by omega, H.out, World.grownBy.refl _ _⟩
  · rw [if_pos (by omega)]
    by_cases h1 : n ≤ 256
    · have hr : ∀ x : Int, 0 ≤ x → 0 ≤ x % n ∧ x % n ≤ n - 1 := fun x hx => ⟨Int.emod_nonneg _ (by omega), by have := Int.emod_lt_of_pos x (b := n) (by omega); omega⟩
      have HRm := Lib.hid hr
      clear hr
      go_enter Try.func43, Try.ntmps43
      go_wp2_with fail
      refine (l1Byte_any g zs _ h).mono ?_
      rintro e w1 ⟨x, rfl, x0, x1, c1, g1⟩
      go_wp2
      go_ret
      exact ⟨_, rfl, (HRm.out _ x0).1, (HRm.out _ x0).2, c1, g1⟩
    · have hr : ∀ x : Int, 0 ≤ x → 0 ≤ x % n ∧ x % n ≤ n - 1 := fun x hx => ⟨Int.emod_nonneg _ (by omega), by have := Int.emod_lt_of_pos x (b := n) (by omega); omega⟩
      have HRm := Lib.hid hr
      clear hr
      go_enter Try.func43, Try.ntmps43
      go_wp2_with fail
      refine (l1Byte_any g zs _ h).mono ?_
      rintro e w1 ⟨x, rfl, x0, x1, c1, g1⟩
      go_wp2_with fail
      refine (l1Byte_any g zs _ c1).mono ?_
      rintro e w2 ⟨y, rfl, y0, y1, c2, g2⟩
      go_wp2_with fail
      refine (l1Byte_any g zs _ c2).mono ?_
      rintro e w3 ⟨z, rfl, z0, z1, c3, g3⟩
      go_wp2
      go_ret
      exact ⟨_, rfl, (HRm.out _ (by omega)).1, (HRm.out _ (by omega)).2, c3, grown_trans (grown_trans g1 g2) g3⟩

def DrawnB (g : Nat) (zs : List Int) (w : World) (e : Ending) (w' : World) : Prop := ∃ x : Bool, e = .returned (.bool x) ∧ Cur g zs w' ∧ w.grownBy w' (some g)

set_option maxRecDepth 100000 in
set_option maxHeartbeats 400000 in
theorem l1Once_any (g : Nat) (zs : List Int) (n : Int) (w : World) (h : Cur g zs w) (hn : n ≤ 16000000) :
    Calls Try.prog 45 #[.pointer (some ⟨g, 0, none⟩), .int .i64 n] w (DrawnB g zs w) := by
  go_enter Try.func45, Try.ntmps45
  go_wp2_with fail
  refine (l1Below_any g zs n _ h hn).mono ?_
  rintro e w1 ⟨x, rfl, x0, x1, c1, g1⟩
  go_wp2
  go_ret
  exact ⟨_, rfl, c1, g1⟩

/-- What a draw out of a list leaves. -/
def DrawnOf (g : Nat) (zs l : List Int) (w : World) (e : Ending) (w' : World) : Prop := ∃ x : Int, e = .returned (.int .i64 x) ∧ x ∈ l ∧ Cur g zs w' ∧ w.grownBy w' (some g)

set_option maxRecDepth 100000 in
set_option maxHeartbeats 400000 in
theorem l1Int_any (g : Nat) (zs l : List Int) (a : Option Addr) (n cap : Nat) (w : World) (h : Cur g zs w) (hr : RdI .i64 w a n cap l) (hl : 0 < n) (hl2 : n ≤ 1000) (ha : ∀ x, a = some x → x.block ≠ g) :
    Calls Try.prog 69 #[.pointer (some ⟨g, 0, none⟩), .slice a n cap] w (DrawnOf g zs l w) := by
  have hln := hr.1.1
  subst hln
  have hq : (0 : Int) < l.length := by omega
  go_enter Try.func69, Try.ntmps69
  go_wp2_with fail
  refine (l1Below_any g zs l.length _ h (by omega)).mono ?_
  rintro e w1 ⟨x, rfl, x0, x1, c1, g1⟩
  rw [if_pos hq] at x1
  obtain ⟨m, rfl⟩ := Int.eq_ofNat_of_zero_le x0
  obtain ⟨b, off, rfl, hc⟩ := hr.2 hl
  have hcm := hc m (by omega)
  rw [← World.cell?_of_block (a := ⟨b, off + m, none⟩) (g1.block b (World.block_lt_of_cell? w ⟨b, off + m, none⟩ hcm) (fun e => ha _ rfl (by simpa using e)))] at hcm
  have hm : l.getD m 0 ∈ l := by
    have : m < l.length := by omega
    simp [List.getD, this]
  obtain ⟨q, hq'⟩ : ∃ q, q = l.getD m 0 := ⟨_, rfl⟩
  rw [← hq'] at hcm hm
  clear hc hr hq'
  go_wp2
  go_ret
  exact ⟨_, rfl, hm, c1, g1⟩

/-- A pointer to a new cursor over the bytes that came in. -/
def NewCur (zs : List Int) (w : World) (e : Ending) (w' : World) : Prop := ∃ g, e = .returned (.pointer (some ⟨g, 0, none⟩)) ∧ Cur g zs w' ∧ Below w.heap.size w w' ∧ w.heap.size ≤ g

theorem newCur {zs : List Int} {w : World} {a : Option Addr} {cap : Nat} {x : Int} (hr : RdI .u8 w a zs.length cap zs) (hz : ∀ z ∈ zs, 0 ≤ z ∧ z ≤ 255) (hn : zs.length ≤ 1048576) (hx : (Lit.int .i64 x).wf = true) :
    NewCur zs w (.returned (.pointer (some ⟨w.heap.size, 0, none⟩))) (w.alloc (.cells #[.slice a zs.length cap, .int .i64 0, .int .i64 x] 89)) := by
  have hb : Below w.heap.size w (w.alloc (.cells #[.slice a zs.length cap, .int .i64 0, .int .i64 x] 89)) := (Below.refl _ _).alloc (Nat.le_refl _) _
  refine ⟨w.heap.size, rfl, ⟨a, cap, 0, x, hz, heap_alloc_new w _, by omega, by omega, hx, hn, hr.below hb, fun h y hy => ?_⟩, hb, Nat.le_refl _⟩
  obtain ⟨b, off, e, hc⟩ := hr.2 h
  rw [hy] at e
  obtain rfl := Option.some.inj e
  exact World.block_lt_of_cell? w ⟨b, off + 0, none⟩ (hc 0 h)

/-- Writes into block g, a new block, and writes into what is new: all in all, writes into block g. -/
theorem grown_own {a b c d : World} {g : Option Nat} {r r' : Option Nat} (h1 : a.grownBy b g) (h2 : b.grownBy c r) (h3 : c.grownBy d r') (hr' : ∀ j, r' = some j → a.heap.size ≤ j) (hr : ∀ j, r = some j → a.heap.size ≤ j := by intro j hj; cases hj) : a.grownBy d g :=
  ⟨h3.os.trans (h2.os.trans h1.os), h3.tape.trans (h2.tape.trans h1.tape), h3.output.trans (h2.output.trans h1.output), Nat.le_trans h1.size (Nat.le_trans h2.size h3.size), fun i hi hne =>
    (h3.block i (by have := h1.size; have := h2.size; omega) (fun e => by have := hr' i e.symm; omega)).trans ((h2.block i (by have := h1.size; omega) (fun e => by have := hr i e.symm; omega)).trans (h1.block i hi hne))⟩

set_option maxRecDepth 100000 in
set_option maxHeartbeats 400000 in
theorem l1New_any (a : Option Addr) (cap : Nat) (zs : List Int) (w : World) (h : RdI .u8 w a zs.length cap zs) (hz : ∀ z ∈ zs, 0 ≤ z ∧ z ≤ 255) (hn : zs.length ≤ 1048576) :
    Calls Try.prog 35 #[.slice a zs.length cap] w (NewCur zs w) := by
  have HR := Lib.hid h
  have HZ := Lib.hid hz
  clear h hz
  go_enter Try.func35, Try.ntmps35
  go_wp2
  go_loop [3, 4] (fun q i => ∃ (k : Nat) (x : Int), k ≤ zs.length ∧ i = .int .i64 k ∧ q = .int .i64 x ∧ (Lit.int .i64 x).wf = true)
    (fun _ i => zs.length - (intOf i).toNat)
  case atStart => exact ⟨0, _, Nat.zero_le _, rfl, rfl, by simp [Lit.wf, IntKind.min, IntKind.max, IntKind.signed, IntKind.bits]; omega⟩
  case round =>
    obtain ⟨k, x, hk, rfl, rfl, hx⟩ := hrel
    by_cases hlt : k < zs.length
    · have HR0 := HR.out.2 (by omega)
      obtain ⟨b, off, rfl, hc⟩ := HR0
      have hck := hc k hlt
      clear hc
      by_cases h4 : (k : Int) < 4000
      · go_wp2
        go_round
        case rel => exact ⟨k + 1, _, by omega, by go_num, rfl, wf_bits _ _ _ _⟩
        case measure => simp [intOf]; omega
      · go_wp2
        go_ret
        exact newCur HR.out HZ.out hn hx
    · go_wp2
      go_ret
      exact newCur HR.out HZ.out hn hx

theorem own_grown {k : IntKind} {e : TypeId} {w w' : World} {base g : Nat} {v : Value} {zs : List Int} (h : Own k e w base v zs) (hg : w.grownBy w' (some g)) (hb : g < base) : Own k e w' base v zs := by
  refine Own.kept h hg ?_
  cases hv : v.ownBlock with
  | none => exact .inl rfl
  | some j => exact .inr fun e => by have := (h.lt j hv).1; simp at e; omega
theorem below_grown {w w1 w' : World} {g : Nat} (h : Below w.heap.size w w1) (hg : w1.grownBy w' (some g)) (hb : w.heap.size ≤ g) : Below w.heap.size w w' := h.grown hg h.size (fun k hk => by simp at hk; omega)

theorem wf_small (x : Int) (h0 : -1000000 ≤ x) (h1 : x ≤ 1000000) : (Lit.int .i64 x).wf = true := by
  simp [Lit.wf, IntKind.min, IntKind.max, IntKind.signed, IntKind.bits]; omega

theorem cur_lt {g : Nat} {zs : List Int} {w : World} (h : Cur g zs w) : g < w.heap.size := by obtain ⟨_, _, _, _, c⟩ := h; exact (Array.getElem?_eq_some_iff.1 c.block).1
theorem cur_alloc {g : Nat} {zs : List Int} {w : World} (h : Cur g zs w) (o : Obj) : Cur g zs (w.alloc o) := cur_kept h (World.grownBy_alloc w o none) (fun k hk => by cases hk)

/-- What the draw of an integer of whatever size leaves. -/
def DrawnI (g : Nat) (zs : List Int) (w : World) (e : Ending) (w' : World) : Prop := ∃ x : Int, e = .returned (.int .i64 x) ∧ (Lit.int .i64 x).wf = true ∧ Cur g zs w' ∧ w.grownBy w' (some g)

def odds : List Int := [-1, 0, 1, 2, 255, 256, 65535, 2147483647, 2147483648, 4294967295, 4294967296, -2147483648, 9223372036854775807, -9223372036854775808]
theorem odds_wf : ∀ x ∈ odds, (Lit.int .i64 x).wf = true := by decide
def raws : List Int := [-1, 0, 1, 4, 255, 256, 65535, 65536]
theorem raws_wf : ∀ x ∈ raws, (Lit.int .i64 x).wf = true := by decide

theorem drawnI_of {g : Nat} {zs l : List Int} {w : World} {o : Obj} {e : Ending} {w' : World} (hl : ∀ x ∈ l, (Lit.int .i64 x).wf = true) (h : DrawnOf g zs l (w.alloc o) e w') : DrawnI g zs w e w' := by
  obtain ⟨x, he, hx, hc, hw⟩ := h
  refine ⟨x, he, hl x hx, hc, ⟨hw.os, hw.tape, hw.output, by have := hw.size; simp at this; omega, fun i hi hne => ?_⟩⟩
  rw [hw.block i (by simp; omega) hne]
  exact heap_alloc_old w o hi

set_option maxRecDepth 100000 in
set_option maxHeartbeats 400000 in
theorem l1Odd_any (g : Nat) (zs : List Int) (w : World) (h : Cur g zs w) :
    Calls Try.prog 73 #[.pointer (some ⟨g, 0, none⟩)] w (DrawnI g zs w) := by
  have hlt := cur_lt h
  go_enter Try.func73, Try.ntmps73
  go_wp2_with fail
  refine (l1Int_any g zs odds (some ⟨w.heap.size, 0, none⟩) 14 14 _ (cur_alloc h _) (rdI_new w .i64 odds _ _ 14 rfl rfl (by simp [maxLen])) (by omega) (by omega) (fun x hx => by cases hx; simp; omega)).mono ?_
  intro e w1 hd
  obtain ⟨x, rfl, hx, hc, hw⟩ := drawnI_of odds_wf hd
  go_wp2
  go_ret
  exact ⟨_, rfl, hx, hc, hw⟩

set_option maxRecDepth 100000 in
set_option maxHeartbeats 400000 in
theorem l1Raw_any (g : Nat) (zs : List Int) (w : World) (h : Cur g zs w) :
    Calls Try.prog 46 #[.pointer (some ⟨g, 0, none⟩)] w (DrawnI g zs w) := by
  go_enter Try.func46, Try.ntmps46
  go_wp2_with fail
  refine (l1Once_any g zs 2 _ h (by omega)).mono ?_
  rintro e w1 ⟨b, rfl, c1, g1⟩
  have hlt := cur_lt c1
  cases b with
  | true =>
    go_wp2_with fail
    refine (l1Odd_any g zs _ c1).mono ?_
    rintro e w2 ⟨x, rfl, hx, c2, g2⟩
    go_wp2
    go_ret
    exact ⟨_, rfl, hx, c2, grown_trans g1 g2⟩
  | false =>
    go_wp2_with fail
    refine (l1Int_any g zs raws (some ⟨w1.heap.size, 0, none⟩) 8 8 _ (cur_alloc c1 _) (rdI_new w1 .i64 raws _ _ 8 rfl rfl (by simp [maxLen])) (by omega) (by omega) (fun x hx => by cases hx; simp; omega)).mono ?_
    intro e w2 hd
    obtain ⟨x, rfl, hx, c2, g2⟩ := drawnI_of raws_wf hd
    go_wp2
    go_ret
    exact ⟨_, rfl, hx, c2, grown_trans g1 g2⟩
end Go.Proofs.Ytfgmjegemlkkkaa

/- The model's encoding of an entry. -/
namespace Go.Proofs.Ytfgmjegemlkkkaa
open Go.RowKit

theorem own8_nil (w : World) (base g : Nat) (hg : w.heap.size = g) (hb : base ≤ g) : Own .u8 5 (w.alloc (.cells #[] 5)) base (.slice (some ⟨g, 0, none⟩) 0 0) [] := own_nil w 5 1 base g hg hb
theorem u8_wrap {n : Int} (h : 0 ≤ n) (h2 : n ≤ 255) : IntKind.u8.wrap n = n := by show n % 256 = n; omega
/-- The six bytes of an entry; none where it is not valid. -/
def putE (x : It) : List Int := if (0 ≤ x.id ∧ x.id ≤ 65535) ∧ okB x.x0 x.y0 x.x1 x.y1 = true then [x.id / 256, x.id % 256, x.x0, x.y0, x.x1, x.y1] else []
theorem rdI_emp (k : IntKind) (w : World) (b : Addr) : RdI k w (some b) 0 0 [] := ⟨⟨rfl, Nat.le_refl _, by simp [maxLen], fun h => by cases h⟩, fun h => by omega⟩

set_option maxHeartbeats 3200000 in
set_option maxRecDepth 100000 in
theorem sPutEntry_any (x : It) (w : World) : Calls Try.prog 22 #[.agg #[.int .i64 x.id, .int .i64 x.x0, .int .i64 x.y0, .int .i64 x.x1, .int .i64 x.y1]] w (Fresh8 w (putE x)) := by
  obtain ⟨i0, hi, hz0, hz1, hz2⟩ := info_parts Try.infoU8
  replace hi := Lib.hid hi
  replace hz0 := Lib.hid hz0
  replace hz1 := Lib.hid hz1
  replace hz2 := Lib.hid hz2
  obtain ⟨W0, hW0⟩ : ∃ W0, W0 = w.alloc (.cells #[.int .i64 x.id, .int .i64 x.x0, .int .i64 x.y0, .int .i64 x.x1, .int .i64 x.y1] 35) := ⟨_, rfl⟩
  have hs0 : W0.heap.size = w.heap.size + 1 := by subst hW0; simp
  have B0 : Hid (Below w.heap.size w W0) := by subst hW0; exact new_below w _
  have K : Hid (∀ o, W0.cell? ⟨w.heap.size, o, none⟩ = #[Value.int .i64 x.id, .int .i64 x.x0, .int .i64 x.y0, .int .i64 x.x1, .int .i64 x.y1][o]?) := by subst hW0; exact (blk_new w _ _).1
  by_cases h : 0 ≤ x.id ∧ x.id ≤ 65535
  · obtain ⟨h1, h2⟩ := h
    cases hb : okB x.x0 x.y0 x.x1 x.y1 with
    | true =>
      have hr : Hid (putE x = [x.id / 256, x.id % 256, x.x0, x.y0, x.x1, x.y1]) := if_pos ⟨⟨h1, h2⟩, hb⟩
      have HL0 : ([IntKind.u8.wrap x.x0, IntKind.u8.wrap x.y0, IntKind.u8.wrap x.x1, IntKind.u8.wrap x.y1] : List Int) = [x.x0, x.y0, x.x1, x.y1] := by
        obtain ⟨b0, b1, b2, b3, b4, b5, b6, b7⟩ : 0 ≤ x.x0 ∧ x.x0 ≤ 255 ∧ 0 ≤ x.y0 ∧ x.y0 ≤ 255 ∧ 0 ≤ x.x1 ∧ x.x1 ≤ 255 ∧ 0 ≤ x.y1 ∧ x.y1 ≤ 255 := by have := (okB_iff _ _ _ _).1 hb; omega
        rw [u8_wrap b0 b1, u8_wrap b2 b3, u8_wrap b4 b5, u8_wrap b6 b7]
      have HL : Hid (([.int .u8 (x.id / 256), .int .u8 (x.id % 256)] ++ [.int .u8 (IntKind.u8.wrap x.x0), .int .u8 (IntKind.u8.wrap x.y0), .int .u8 (IntKind.u8.wrap x.x1), .int .u8 (IntKind.u8.wrap x.y1)] : List Value) = [x.id / 256, x.id % 256, x.x0, x.y0, x.x1, x.y1].map (Value.int .u8)) := by
        show _ = _
        have := congrArg (List.map (Value.int .u8)) HL0
        simp only [List.map_cons, List.map_nil] at this
        rw [this]
        rfl
      clear HL0
      have hp : Hid (put2 [] x.id = [x.id / 256, x.id % 256]) := by show put2 [] x.id = _; unfold put2; rw [if_pos ⟨h1, h2⟩]; rfl
      have hwf := Lib.hid (wf_small x.id (by omega) (by omega))
      have hbd := (okB_iff _ _ _ _).1 hb
      obtain ⟨b0, b1, b2, b3, b4, b5, b6, b7⟩ : 0 ≤ x.x0 ∧ x.x0 ≤ 255 ∧ 0 ≤ x.y0 ∧ x.y0 ≤ 255 ∧ 0 ≤ x.x1 ∧ x.x1 ≤ 255 ∧ 0 ≤ x.y1 ∧ x.y1 ≤ 255 := by omega
      have KS := Lib.hid (show ∀ V, Below W0.heap.size W0 V → (fun V => Below W0.heap.size W0 V ∧ V.cell? ⟨w.heap.size, 0, none⟩ = some (.int .i64 x.id) ∧ V.cell? ⟨w.heap.size, 1, none⟩ = some (.int .i64 x.x0) ∧ V.cell? ⟨w.heap.size, 2, none⟩ = some (.int .i64 x.y0) ∧ V.cell? ⟨w.heap.size, 3, none⟩ = some (.int .i64 x.x1) ∧ V.cell? ⟨w.heap.size, 4, none⟩ = some (.int .i64 x.y1)) V from fun V b => ⟨b, (b.cell (p := ⟨w.heap.size, 0, none⟩) (show w.heap.size < W0.heap.size by omega)).trans (K.out 0), (b.cell (p := ⟨w.heap.size, 1, none⟩) (show w.heap.size < W0.heap.size by omega)).trans (K.out 1), (b.cell (p := ⟨w.heap.size, 2, none⟩) (show w.heap.size < W0.heap.size by omega)).trans (K.out 2), (b.cell (p := ⟨w.heap.size, 3, none⟩) (show w.heap.size < W0.heap.size by omega)).trans (K.out 3), (b.cell (p := ⟨w.heap.size, 4, none⟩) (show w.heap.size < W0.heap.size by omega)).trans (K.out 4)⟩)
      have KT := Lib.hid (show ∀ V V' : World, Below W0.heap.size W0 V → Below V.heap.size V V' → Below W0.heap.size W0 V' from fun V V' b b' => b.trans (b'.mono b.size))
      have KA := Lib.hid (show ∀ (V : World) (O : Obj), Below W0.heap.size W0 V → Below W0.heap.size W0 (V.alloc O) from fun V O b => b.alloc b.size O)
      have k := K.out
      clear hbd
      go_enter Try.func22, Try.ntmps22
      go_wp2_with fail
      rw [← hW0]
      refine (l1In_yes x.id 0 65535 _ h1 h2).mono ?_
      rintro e w2 ⟨rfl, rfl⟩
      go_wp2_with fail
      have CB := sBoxOk_any x.x0 x.y0 x.x1 x.y1
      rw [hb] at CB
      refine (CB _).mono ?_
      rintro e w2 ⟨rfl, hb2⟩
      rw [← hW0] at hb2
      clear CB hb
      have KD := Lib.hid (show Below W0.heap.size W0 w2.drew from hb2.drew)
      have KX1 := Lib.hid (show ∀ O : Obj, Below W0.heap.size W0 (w2.alloc O).drew from fun O => (hb2.alloc hb2.size O).drew)
      have KX2 := Lib.hid (show ∀ O O' : Obj, Below W0.heap.size W0 ((w2.alloc O).alloc O').drew from fun O O' => ((hb2.alloc hb2.size O).alloc (by have := hb2.size; simp; omega) O').drew)
      have RN := Lib.hid (fun W : World => rdI_new W .u8 [IntKind.u8.wrap x.x0, IntKind.u8.wrap x.y0, IntKind.u8.wrap x.x1, IntKind.u8.wrap x.y1] #[.int .u8 (IntKind.u8.wrap x.x0), .int .u8 (IntKind.u8.wrap x.y0), .int .u8 (IntKind.u8.wrap x.x1), .int .u8 (IntKind.u8.wrap x.y1)] 5 4 rfl rfl (by simp [maxLen]))
      go_wp2_with fail
      go_region_held3 (fun V => Below W0.heap.size W0 V ∧ V.cell? ⟨w.heap.size, 0, none⟩ = some (.int .i64 x.id) ∧ V.cell? ⟨w.heap.size, 1, none⟩ = some (.int .i64 x.x0) ∧ V.cell? ⟨w.heap.size, 2, none⟩ = some (.int .i64 x.y0) ∧ V.cell? ⟨w.heap.size, 3, none⟩ = some (.int .i64 x.x1) ∧ V.cell? ⟨w.heap.size, 4, none⟩ = some (.int .i64 x.y1))
        (first | exact KS.out _ KD.out | exact KS.out _ (KX1.out _) | exact KS.out _ (KX2.out _ _) | exact KS.out _ hbw.out | exact KS.out _ hbx.out | exact KS.out _ (KA.out _ _ hbw.out))
        (first
          | (go_at_call 59; (with_reducible refine (sPut2_any _ 0 0 [] x.id _ (rdI_emp _ _ _) (by omega) hwf.out).mono ?_); rintro e w3 ⟨v3, rfl, o3, hb⟩; rw [hp.out] at o3; obtain ⟨a3, c3, rfl, r3⟩ := o3.rd; have hbw := Lib.hid (KT.out _ _ (And.left (by assumption)) hb); replace o3 := Lib.hid (Own.mono o3 (And.left (show Below W0.heap.size W0 _ ∧ True from ⟨And.left (by assumption), trivial⟩)).size))
          | (refine step_append_src rfl (.tmp 17) (.tmp 34) 22 rfl W0.heap.size 5 i0 _ 1 1 Try.underlying22 hi.out hz0.out hz1.out hz2.out rfl (by decide) (.slice a3 2 c3) 2 [.int .u8 (x.id / 256), .int .u8 (x.id % 256)] rfl (World.ownsRow.alloc o3.out _) (some ⟨w3.heap.size, 0, none⟩) 4 4 [.int .u8 (IntKind.u8.wrap x.x0), .int .u8 (IntKind.u8.wrap x.y0), .int .u8 (IntKind.u8.wrap x.x1), .int .u8 (IntKind.u8.wrap x.y1)] rfl rfl (fun h => by cases h) (RdI.news (zs := [IntKind.u8.wrap x.x0, IntKind.u8.wrap x.y0, IntKind.u8.wrap x.x1, IntKind.u8.wrap x.y1]) (RN.out w3)) (ints_oneCell .u8 [IntKind.u8.wrap x.x0, IntKind.u8.wrap x.y0, IntKind.u8.wrap x.x1, IntKind.u8.wrap x.y1]) (by unfold maxLen; omega) (by omega) (KA.out w3 (.cells #[.int .u8 (IntKind.u8.wrap x.x0), .int .u8 (IntKind.u8.wrap x.y0), .int .u8 (IntKind.u8.wrap x.x1), .int .u8 (IntKind.u8.wrap x.y1)] 5) hbw.out).size ?_; intro v5 w5 o5 g5; have hbx := Lib.hid (Below.grown (KA.out w3 (.cells #[.int .u8 (IntKind.u8.wrap x.x0), .int .u8 (IntKind.u8.wrap x.y0), .int .u8 (IntKind.u8.wrap x.x1), .int .u8 (IntKind.u8.wrap x.y1)] 5) hbw.out) g5 (KA.out w3 (.cells #[.int .u8 (IntKind.u8.wrap x.x0), .int .u8 (IntKind.u8.wrap x.y0), .int .u8 (IntKind.u8.wrap x.x1), .int .u8 (IntKind.u8.wrap x.y1)] 5) hbw.out).size (fun j hj => (World.ownsRow.lt o3.out j hj).1)))
          | (refine step_append_src rfl (.tmp 17) (.tmp 34) 22 rfl W0.heap.size 5 i0 _ 1 1 Try.underlying22 hi.out hz0.out hz1.out hz2.out rfl (by decide) (.slice a3 2 c3) 2 [.int .u8 (x.id / 256), .int .u8 (x.id % 256)] rfl (o3.out) (some ⟨w2.heap.size + 1, 0, none⟩) 4 4 [.int .u8 (IntKind.u8.wrap x.x0), .int .u8 (IntKind.u8.wrap x.y0), .int .u8 (IntKind.u8.wrap x.x1), .int .u8 (IntKind.u8.wrap x.y1)] rfl rfl (fun h => by cases h) (RdI.news (zs := [IntKind.u8.wrap x.x0, IntKind.u8.wrap x.y0, IntKind.u8.wrap x.x1, IntKind.u8.wrap x.y1]) (by have := ((RN.out (w2.alloc (.cells #[] 5))).below (drew_below _)).below hb; simpa using this)) (ints_oneCell .u8 [IntKind.u8.wrap x.x0, IntKind.u8.wrap x.y0, IntKind.u8.wrap x.x1, IntKind.u8.wrap x.y1]) (by unfold maxLen; omega) (by omega) (hbw.out).size ?_; intro v5 w5 o5 g5; have hbx := Lib.hid (Below.grown (hbw.out) g5 (hbw.out).size (fun j hj => (World.ownsRow.lt o3.out j hj).1)))
          | (refine step_append_src rfl (.tmp 17) (.tmp 34) 22 rfl W0.heap.size 5 i0 _ 1 1 Try.underlying22 hi.out hz0.out hz1.out hz2.out rfl (by decide) (.slice a3 2 c3) 2 [.int .u8 (x.id / 256), .int .u8 (x.id % 256)] rfl (o3.out) (some ⟨w2.heap.size, 0, none⟩) 4 4 [.int .u8 (IntKind.u8.wrap x.x0), .int .u8 (IntKind.u8.wrap x.y0), .int .u8 (IntKind.u8.wrap x.x1), .int .u8 (IntKind.u8.wrap x.y1)] rfl rfl (fun h => by cases h) (RdI.news (zs := [IntKind.u8.wrap x.x0, IntKind.u8.wrap x.y0, IntKind.u8.wrap x.x1, IntKind.u8.wrap x.y1]) (by have := (((RN.out w2).below (new_below _ (.cells #[] 5))).below (drew_below _)).below hb; simpa using this)) (ints_oneCell .u8 [IntKind.u8.wrap x.x0, IntKind.u8.wrap x.y0, IntKind.u8.wrap x.x1, IntKind.u8.wrap x.y1]) (by unfold maxLen; omega) (by omega) (hbw.out).size ?_; intro v5 w5 o5 g5; have hbx := Lib.hid (Below.grown (hbw.out) g5 (hbw.out).size (fun j hj => (World.ownsRow.lt o3.out j hj).1))))
      all_goals
        have H5 := Lib.hid o5
        clear o5 g5
        go_wp2
        go_ret
        refine ⟨_, rfl, Own.mono (base' := W0.heap.size) ?_ (by omega), B0.out.trans (hbx.out.mono (by omega))⟩
        unfold Own
        rw [hr.out]
        exact HL.out ▸ H5.out
    | false =>
      have hr : Hid (putE x = []) := if_neg (fun h => by rw [hb] at h; exact Bool.noConfusion h.2)
      have k := K.out
      have CB := sBoxOk_any x.x0 x.y0 x.x1 x.y1
      rw [hb] at CB
      replace CB := Lib.hid CB
      clear hb
      go_enter Try.func22, Try.ntmps22
      go_wp2_with fail
      rw [← hW0]
      refine (l1In_yes x.id 0 65535 _ h1 h2).mono ?_
      rintro e w2 ⟨rfl, rfl⟩
      go_wp2_with fail
      refine (CB.out _).mono ?_
      rintro e w2 ⟨rfl, hb2⟩
      rw [← hW0] at hb2
      replace hb2 := Lib.hid (B0.out.trans (hb2.mono B0.out.size))
      go_wp2
      go_ret
      refine ⟨_, rfl, ?_, hb2.out.alloc hb2.out.size _⟩
      rw [hr.out]
      exact own8_nil w2 w.heap.size w2.heap.size rfl hb2.out.size
  · have hr : Hid (putE x = []) := if_neg (fun h' => h h'.1)
    have k := K.out
    go_enter Try.func22, Try.ntmps22
    go_wp2_with fail
    rw [← hW0]
    refine (l1In_no x.id 0 65535 _ h).mono ?_
    rintro e w2 ⟨rfl, rfl⟩
    go_wp2
    go_ret
    subst hW0
    refine ⟨_, rfl, ?_, B0.out.alloc B0.out.size _⟩
    rw [hr.out]
    exact own8_nil (w.alloc (.cells #[.int .i64 x.id, .int .i64 x.x0, .int .i64 x.y0, .int .i64 x.x1, .int .i64 x.y1] 35)) w.heap.size (w.heap.size + 1) (by simp) (by omega)
end Go.Proofs.Ytfgmjegemlkkkaa

/- The laws' own helpers on entries. -/
namespace Go.Proofs.Ytfgmjegemlkkkaa
open Go.RowKit

set_option maxRecDepth 100000 in
set_option maxHeartbeats 400000 in
/-- laws.toItem: the same item in the program's own type. -/
theorem toEntry_any (id x0 y0 x1 y1 : Int) (w : World) : Calls Try.prog 33 #[.agg #[.int .i64 id, .int .i64 x0, .int .i64 y0, .int .i64 x1, .int .i64 y1]] w fun e w' =>
    e = .returned (.agg #[.int .i64 id, .int .i64 x0, .int .i64 y0, .int .i64 x1, .int .i64 y1]) ∧ Below w.heap.size w w' := by
  go_enter Try.func33, Try.ntmps33
  go_wp2_with fail
  refine (toBox_any x0 y0 x1 y1 _).mono ?_
  rintro e w1 ⟨rfl, hb⟩
  have K := below_keep hb (by simp) _ _ (blk_new2 w _ _ _ _)
  have J := below_keep hb (by simp) _ _ (blk_alloc _ (by simp) _ _ (blk_new1 w _ _ _))
  have s1 := hb.size
  simp at s1
  have B := ((((Below.refl _ _).alloc (Nat.le_refl _) _).alloc (by simp) _).alloc (by simp; omega) _).trans (hb.mono (show w.heap.size ≤ _ by simp; omega))
  clear hb
  obtain ⟨k0, f0⟩ := K
  obtain ⟨j0, g0⟩ := J
  have hl : w.heap.size + 1 + 1 < w1.heap.size := by omega
  have hl' : w.heap.size + 1 < w1.heap.size := by omega
  go_wp2
  refine bodyPost_ret (v := .agg #[.int .i64 id, .int .i64 x0, .int .i64 y0, .int .i64 x1, .int .i64 y1]) (by simp [results, Try.results33, go_sem, j0]) rfl ⟨rfl, ?_⟩
  exact (((((((((B).setCell (p := ⟨w.heap.size + 1 + 1, 1, none⟩) (show w.heap.size ≤ w.heap.size + 1 + 1 by omega) _).setCell (p := ⟨w.heap.size + 1 + 1, 2, none⟩) (show w.heap.size ≤ w.heap.size + 1 + 1 by omega) _).setCell (p := ⟨w.heap.size + 1 + 1, 3, none⟩) (show w.heap.size ≤ w.heap.size + 1 + 1 by omega) _).setCell (p := ⟨w.heap.size + 1 + 1, 4, none⟩) (show w.heap.size ≤ w.heap.size + 1 + 1 by omega) _).setCell (p := ⟨w.heap.size + 1, 0, none⟩) (show w.heap.size ≤ w.heap.size + 1 by omega) _).setCell (p := ⟨w.heap.size + 1, 1, none⟩) (show w.heap.size ≤ w.heap.size + 1 by omega) _).setCell (p := ⟨w.heap.size + 1, 2, none⟩) (show w.heap.size ≤ w.heap.size + 1 by omega) _).setCell (p := ⟨w.heap.size + 1, 3, none⟩) (show w.heap.size ≤ w.heap.size + 1 by omega) _).setCell (p := ⟨w.heap.size + 1, 4, none⟩) (show w.heap.size ≤ w.heap.size + 1 by omega) _

set_option maxRecDepth 100000 in
set_option maxHeartbeats 400000 in
/-- laws.eqItem: field by field. -/
theorem eqEntry_any (a b : It) (w : World) : Calls Try.prog 34 #[.agg #[.int .i64 a.id, .int .i64 a.x0, .int .i64 a.y0, .int .i64 a.x1, .int .i64 a.y1], .agg #[.int .i64 b.id, .int .i64 b.x0, .int .i64 b.y0, .int .i64 b.x1, .int .i64 b.y1]] w fun e w' =>
    e = .returned (.bool (itEq a b)) ∧ Below w.heap.size w w' := by
  obtain ⟨i, x0, y0, x1, y1⟩ := a
  obtain ⟨j, u0, v0, u1, v1⟩ := b
  by_cases h : i = j
  · subst h
    cases hb : boxEq x0 y0 x1 y1 u0 v0 u1 v1 with
    | true =>
      have hr : Hid (itEq ⟨i, x0, y0, x1, y1⟩ ⟨i, u0, v0, u1, v1⟩ = true) := by show itEq _ _ = _; unfold itEq; simp [hb]
      go_enter Try.func34, Try.ntmps34
      go_wp2_with fail
      refine (eqBox_any x0 y0 x1 y1 u0 v0 u1 v1 _).mono ?_
      rw [hb]
      rintro e w1 ⟨rfl, hj⟩
      go_wp2
      go_ret
      exact ⟨ret_bool hr.out.symm, (((Below.refl _ _).alloc (Nat.le_refl _) _).alloc (by simp) _).trans (hj.mono (by simp; omega))⟩
    | false =>
      have hr : Hid (itEq ⟨i, x0, y0, x1, y1⟩ ⟨i, u0, v0, u1, v1⟩ = false) := by show itEq _ _ = _; unfold itEq; simp [hb]
      go_enter Try.func34, Try.ntmps34
      go_wp2_with fail
      refine (eqBox_any x0 y0 x1 y1 u0 v0 u1 v1 _).mono ?_
      rw [hb]
      rintro e w1 ⟨rfl, hj⟩
      go_wp2
      go_ret
      exact ⟨ret_bool hr.out.symm, (((Below.refl _ _).alloc (Nat.le_refl _) _).alloc (by simp) _).trans (hj.mono (by simp; omega))⟩
  · have hr : Hid (itEq ⟨i, x0, y0, x1, y1⟩ ⟨j, u0, v0, u1, v1⟩ = false) := by show itEq _ _ = _; unfold itEq; simp [h]
    have h1 : (i != j) = true := by simpa using h
    clear h
    go_enter Try.func34, Try.ntmps34
    go_wp2
    go_ret
    exact ⟨ret_bool hr.out.symm, ((Below.refl _ _).alloc (Nat.le_refl _) _).alloc (by simp) _⟩
end Go.Proofs.Ytfgmjegemlkkkaa

/- The laws' own helpers on slices of entries: how many, a copy, equality. -/
namespace Go.Proofs.Ytfgmjegemlkkkaa
open Go.RowKit

theorem Try.infoEntry : (Try.prog.info? 35).map (fun i => (i.zero, i.size, i.bytes)) = some (some (.agg #[.int .i64 0, .int .i64 0, .int .i64 0, .int .i64 0, .int .i64 0]), 5, 40) := by kernel_rfl

set_option maxRecDepth 100000 in
set_option maxHeartbeats 400000 in
/-- laws.szEntryS: what is left of a number, less the length; -1 where too much. -/
theorem szEntryS_any (a : Option Addr) (n cap : Nat) (left : Int) (w : World) (hn : n ≤ maxLen) (hl : 0 ≤ left ∧ left ≤ 1048576) :
    Calls Try.prog 62 #[.slice a n cap, .int .i64 left] w fun e w' => e = .returned (.int .i64 (if left - n < 0 then -1 else left - n)) ∧ w = w' := by
  unfold maxLen at hn
  obtain ⟨l0, l1⟩ := hl
  by_cases h : left - n < 0
  · rw [if_pos h]
    go_enter Try.func62, Try.ntmps62
    go_wp2
    go_ret
    exact ⟨rfl, rfl⟩
  · rw [if_neg h]
    go_enter Try.func62, Try.ntmps62
    go_wp2
    go_ret
    exact ⟨rfl, rfl⟩

/-- A slice of rectangles in new memory. -/
def NewEntries (xs : List It) (w : World) (e : Ending) (w' : World) : Prop := ∃ v, e = .returned v ∧ OwnS itLay 35 w' w.heap.size v xs ∧ Below w.heap.size w w'

set_option maxRecDepth 100000 in
set_option maxHeartbeats 800000 in
/-- laws.toEntryS: a copy in new memory. -/
theorem toEntryS_any (a : Option Addr) (n cap : Nat) (xs : List It) (w : World) (h : RdS itLay w a n cap xs) (hn : n ≤ 4398046511104) :
    Calls Try.prog 63 #[.slice a n cap] w (NewEntries xs w) := by
  obtain ⟨i0, hi, hz0, hz1, hz2⟩ := info_parts Try.infoEntry
  have HR := Lib.hid h; clear h
  replace hz2 := Lib.hid hz2
  have hnc := HR.out.1.2.1
  go_enter Try.func63, Try.ntmps63
  go_wp2_with (at_make; refine wpList_make_full _ rfl _ _ 24 rfl w.heap.size 35 i0 (.agg #[.int .i64 0, .int .i64 0, .int .i64 0, .int .i64 0, .int .i64 0]) 5 Try.underlying24 hi hz0 hz1 .i64 .i64 (n : Int) (n : Int) n rfl rfl rfl rfl ?_ ?_ ?_ ?_)
  case refine_1 => rw [hz2.out]; omega
  case refine_2 => unfold maxLen; omega
  case refine_3 => exact Nat.le_refl _
  intro w1 hown hgrow
  have hb := grownNone_below hgrow
  clear hgrow
  rw [madeI] at hown
  go_wp2
  go_loopw [4] (fun i wr => ∃ k : Nat, k ≤ n ∧ i = .int .i64 k ∧
      wr.ownsRow w.heap.size 35 5 (.slice (some ⟨w.heap.size, 0, none⟩) n n) n ((copiedI xs n k).flatMap itLay.cells) ∧ Below w.heap.size w wr)
    (fun i _ => n - (intOf i).toNat)
  case atStart => exact ⟨0, Nat.zero_le _, rfl, by rw [copiedI_start]; exact hown, hb⟩
  case round =>
    obtain ⟨k, hk, rfl, ho, hB⟩ := hrel
    by_cases hlt : k < n
    · obtain ⟨b, off, x, rfl, hbl, hx, d0, d1, d2, d3, d4⟩ := rdIt_at (HR.out.below hB) hlt
      have hst := Lib.hid (copiedI_set xs n k x hx)
      have hl := copiedI_len xs n k
      have HO := Lib.hid ho
      clear ho hx
      have z0 : (0 : Int) ≤ k := by omega
      have z1 : (k : Int) < n := by omega
      go_wp2_with fail
      refine (toEntry_any _ _ _ _ _ _).mono ?_
      rintro e w2 ⟨rfl, hj⟩
      have HO2 := OwnS.kept (L := itLay) (xs := copiedI xs n k) (by unfold OwnS; rw [hl]; exact HO.out) (Below.toGrown hj none) (.inr (by simp [Value.ownBlock]))
      unfold OwnS at HO2
      rw [hl] at HO2
      obtain ⟨y, e0, e1, e2, e3, e4⟩ := ownIt_at HO2 hl hlt
      have hfz := HO2.frozenAt
      have hbl2 : w.heap.size < w2.heap.size := by
        have := HO2.lt w.heap.size rfl
        omega
      have H2 := Lib.hid HO2
      clear HO2
      go_wp2
      go_roundw
      case rel =>
        refine ⟨k + 1, by omega, by go_num, ?_, (((((hB.trans (hj.mono hB.size)).setCell (p := ⟨w.heap.size, _, none⟩) (Nat.le_refl _) _).setCell (p := ⟨w.heap.size, _, none⟩) (Nat.le_refl _) _).setCell (p := ⟨w.heap.size, _, none⟩) (Nat.le_refl _) _).setCell (p := ⟨w.heap.size, _, none⟩) (Nat.le_refl _) _).setCell (p := ⟨w.heap.size, _, none⟩) (Nat.le_refl _) _⟩
        rw [hst.out, ← flat_setI _ k x (by omega)]
        exact (((((((H2.out.stored _ _).1).stored _ _).1).stored _ _).1.stored _ _).1.stored _ _).1
      case measure => simp [intOf]; omega
    · have HF : Hid (copiedI xs n k = xs) := by
        obtain rfl : k = n := by omega
        exact copiedI_end xs k HR.out.1.1
      go_wp2
      go_ret
      refine ⟨_, rfl, ?_, hB⟩
      unfold OwnS
      rw [HR.out.1.1]
      rw [HF.out] at ho
      exact ho

set_option maxRecDepth 100000 in
set_option maxHeartbeats 800000 in
/-- laws.eqEntryS: two slices that read alike. -/
theorem eqEntryS_same (a b : Option Addr) (n c1 c2 : Nat) (xs : List It) (w : World) (h : RdS itLay w a n c1 xs) (h' : RdS itLay w b n c2 xs) (hn : n ≤ 4398046511104) :
    Calls Try.prog 64 #[.slice a n c1, .slice b n c2] w fun e w' => e = .returned (.bool true) ∧ Below w.heap.size w w' := by
  have HR := Lib.hid h; clear h
  have HR' := Lib.hid h'; clear h'
  have hnc := HR.out.1.2.1
  have hnc' := HR'.out.1.2.1
  go_enter Try.func64, Try.ntmps64
  go_wp2
  go_loopw [5] (fun i wr => ∃ k : Nat, k ≤ n ∧ i = .int .i64 k ∧ Below w.heap.size w wr) (fun i _ => n - (intOf i).toNat)
  case atStart => exact ⟨0, Nat.zero_le _, rfl, Below.refl _ _⟩
  case round =>
    obtain ⟨k, hk, rfl, hB⟩ := hrel
    by_cases hlt : k < n
    · obtain ⟨g, off, x, rfl, hgl, hx, d0, d1, d2, d3, d4⟩ := rdIt_at (HR.out.below hB) hlt
      obtain ⟨g', off', x', rfl, hgl', hx', p0, p1, p2, p3, p4⟩ := rdIt_at (HR'.out.below hB) hlt
      obtain rfl : x = x' := by rw [hx] at hx'; simpa using hx'
      have he := itEq_self x
      have z0 : (0 : Int) ≤ k := by omega
      have z1 : (k : Int) < n := by omega
      clear hx hx'
      go_wp2
      go_region_with ((with_reducible refine (eqEntry_any _ _ _).mono ?_); rintro e w1 ⟨rfl, hj⟩)
      all_goals
        go_wp2
        go_roundw
        case rel => exact ⟨k + 1, by omega, by go_num, hB.drew.trans (hj.mono hB.size)⟩
        case measure => simp [intOf]; omega
    · go_wp2
      go_ret
      exact ⟨rfl, hB⟩
end Go.Proofs.Ytfgmjegemlkkkaa

/- Where in a slice of entries a number stands. -/
namespace Go.Proofs.Ytfgmjegemlkkkaa
open Go.RowKit

set_option maxRecDepth 100000 in
set_option maxHeartbeats 800000 in
theorem sEntryAt_any (a : Option Addr) (n cap : Nat) (xs : List It) (id : Int) (w : World) (h : RdS itLay w a n cap xs) :
    Calls Try.prog 76 #[.slice a n cap, .int .i64 id] w fun e w' => e = .returned (.int .i64 (atV id xs 0)) ∧ Below w.heap.size w w' := by
  have hm := h.1.2.2.1
  have hnc := h.1.2.1
  unfold maxLen at hm
  have HR := Lib.hid h
  have HL := Lib.hid h.1.1
  clear h
  go_enter Try.func76, Try.ntmps76
  go_wp2
  go_loopw [5] (fun i wr => ∃ k : Nat, k ≤ n ∧ i = .int .i64 k ∧ atV id xs 0 = atV id (xs.drop k) k ∧ wr = w) (fun i _ => n - (intOf i).toNat)
  case atStart => exact ⟨0, Nat.zero_le _, rfl, rfl, rfl⟩
  case round =>
    obtain ⟨k, hk, rfl, hA, rfl⟩ := hrel
    have HA := Lib.hid hA
    clear hA
    by_cases hlt : k < n
    · obtain ⟨b, off, x, rfl, hbl, hx, d0, d1, d2, d3, d4⟩ := rdIt_at HR.out hlt
      have HX := Lib.hid hx
      have z0 : (0 : Int) ≤ k := by omega
      have z1 : (k : Int) < n := by omega
      clear hx
      by_cases h : x.id = id
      · have hr := Lib.hid (HA.out.trans (atV_yes id HX.out h))
        have h' : (x.id == id) = true := by simpa using h
        clear h
        go_wp2
        go_ret
        exact ⟨ret_i64' hr.out.symm, Below.refl _ _⟩
      · have hr := Lib.hid (HA.out.trans (atV_no id HX.out h))
        have h' : (x.id == id) = false := by simpa using h
        clear h
        go_wp2
        go_roundw
        case rel => exact ⟨k + 1, by omega, by go_num, hr.out, by trivial⟩
        case measure => simp [intOf]; omega
    · have hr : Hid (atV id xs 0 = -1) := by
        obtain rfl : k = n := by omega
        exact HA.out.trans (atV_end xs k id (by rw [HL.out]; exact Nat.le_refl _))
      go_wp2
      go_ret
      exact ⟨ret_i64' hr.out.symm, Below.refl _ _⟩
end Go.Proofs.Ytfgmjegemlkkkaa

/- Items that are marked: the laws' own marking of a slice and its reading. -/
namespace Go.Proofs.Ytfgmjegemlkkkaa
open Go.RowKit

def markIt (k : Int) (j : Nat) : It := ⟨k + 5 * j, k + 5 * j + 1, k + 5 * j + 1 + 1, k + 5 * j + 1 + 1 + 1, k + 5 * j + 1 + 1 + 1 + 1⟩
def markedI (n : Nat) (k : Int) : List It := gen n (markIt k)
theorem markedI_len (n : Nat) (k : Int) : (markedI n k).length = n := gen_length _ _

def halfI (xs : List It) (n : Nat) (k : Int) (m : Nat) : List It := gen n fun j => if j < m then markIt k j else xs.getD j zeroIt
theorem halfI_len (xs : List It) (n : Nat) (k : Int) (m : Nat) : (halfI xs n k m).length = n := gen_length _ _
theorem halfI_set (xs : List It) (n : Nat) (k : Int) (m : Nat) : halfI xs n k (m + 1) = (halfI xs n k m).set m (markIt k m) := by
  unfold halfI
  rw [gen_set]
  refine gen_congr n _ _ fun j _ => ?_
  by_cases h : j = m
  · subst h; simp
  · rw [if_neg h]
    by_cases h' : j < m
    · rw [if_pos h', if_pos (by omega)]
    · rw [if_neg h', if_neg (by omega)]
theorem halfI_start (xs : List It) (n : Nat) (k : Int) (h : xs.length = n) : halfI xs n k 0 = xs := by
  unfold halfI
  simp only [Nat.not_lt_zero, if_false]
  exact gen_list xs zeroIt n h
theorem halfI_end (xs : List It) (n : Nat) (k : Int) : halfI xs n k n = markedI n k := by
  unfold halfI markedI
  exact gen_congr n _ _ fun j hj => by rw [if_pos hj]

end Go.Proofs.Ytfgmjegemlkkkaa

/- Entries that are marked, and their reading. -/
namespace Go.Proofs.Ytfgmjegemlkkkaa
open Go.RowKit

set_option maxRecDepth 100000 in
set_option maxHeartbeats 800000 in
/-- laws.heldEntryS: a slice that reads as it was marked. -/
theorem heldEntryS_any (a : Option Addr) (n cap : Nat) (k : Int) (w : World) (h : RdS itLay w a n cap (markedI n k)) (hk0 : 0 ≤ k) (hk : k ≤ 1000000000) (hn : n ≤ 1000000000) :
    Calls Try.prog 66 #[.slice a n cap, .int .i64 k] w fun e w' => e = .returned (.int .i64 (k + 5 * n)) ∧ w = w' := by
  have HR := Lib.hid h
  have hnc := h.1.2.1
  have hm := h.1.2.2.1
  unfold maxLen at hm
  clear h
  go_enter Try.func66, Try.ntmps66
  go_wp2
  go_loopw [1, 5] (fun q i wr => ∃ m : Nat, m ≤ n ∧ i = .int .i64 m ∧ q = .int .i64 (k + 5 * m) ∧ wr = w) (fun _ i _ => n - (intOf i).toNat)
  case atStart => exact ⟨0, Nat.zero_le _, rfl, by simp, rfl⟩
  case round =>
    obtain ⟨m, hm, rfl, rfl, rfl⟩ := hrel
    by_cases hlt : m < n
    · obtain ⟨b, off, x, rfl, hbl, hx, d0, d1, d2, d3, d4⟩ := rdIt_at HR.out hlt
      rw [markedI, gen_at n _ m hlt] at hx
      obtain rfl : markIt k m = x := by simpa using hx
      simp only [markIt] at d0 d1 d2 d3 d4
      have z0 : (0 : Int) ≤ m := by omega
      have z1 : (m : Int) < n := by omega
      clear hx
      go_wp2
      go_roundw
      case rel => exact ⟨m + 1, by omega, by go_num, by go_num, by trivial⟩
      case measure => simp [intOf]; omega
    · obtain rfl : m = n := by omega
      go_wp2
      go_ret
      exact ⟨rfl, rfl⟩

set_option maxRecDepth 100000 in
set_option maxHeartbeats 1600000 in
/-- laws.markEntryS: writes k, k + 1, .. into a slice that is owned. -/
theorem markEntryS_any (a : Option Addr) (n cap : Nat) (xs : List It) (k : Int) (base : Nat) (w : World) (h : w.ownsRow base 35 5 (.slice a n cap) n (xs.flatMap itLay.cells)) (hz : xs.length = n) (hk0 : 0 ≤ k) (hk : k ≤ 1000000000) (hn : n ≤ 1000000000) :
    Calls Try.prog 65 #[.slice a n cap, .int .i64 k] w fun e w' =>
      e = .returned (.int .i64 (k + 5 * n)) ∧ w'.ownsRow base 35 5 (.slice a n cap) n ((markedI n k).flatMap itLay.cells) ∧ w.grownBy w' (Value.slice a n cap).ownBlock := by
  have HN := Lib.hid hz
  clear hz
  have H0 := Lib.hid h
  clear h
  go_enter Try.func65, Try.ntmps65
  go_wp2
  go_loopw [1, 5] (fun q i wr => ∃ m : Nat, m ≤ n ∧ i = .int .i64 m ∧ q = .int .i64 (k + 5 * m) ∧
      Hid (wr.ownsRow base 35 5 (.slice a n cap) n ((halfI xs n k m).flatMap itLay.cells)) ∧ Hid (w.grownBy wr (Value.slice a n cap).ownBlock))
    (fun _ i _ => n - (intOf i).toNat)
  case atStart =>
    refine ⟨0, Nat.zero_le _, rfl, by simp, ?_, Lib.hid (World.grownBy.refl _ _)⟩
    rw [halfI_start xs n k HN.out]
    exact H0
  case round =>
    obtain ⟨m, hm, rfl, rfl, ho, hg⟩ := hrel
    by_cases hlt : m < n
    · have hl := halfI_len xs n k m
      obtain ⟨g, rfl⟩ := own_head ho.out (by omega)
      obtain ⟨y, e0, e1, e2, e3, e4⟩ := ownIt_at ho.out hl hlt
      have hfz := ho.out.frozenAt
      have hlw : g < wr.heap.size := (ho.out.lt g rfl).2
      have hst := Lib.hid (halfI_set xs n k m)
      have z0 : (0 : Int) ≤ m := by omega
      have z1 : (m : Int) < n := by omega
      have hcap : n ≤ cap ∧ cap ≤ maxLen := by
        obtain ⟨a', c', hv, hr⟩ := OwnS.rd (L := itLay) (e := 35) (xs := halfI xs n k m) (by unfold OwnS; rw [hl]; exact ho.out)
        simp only [Value.slice.injEq] at hv
        obtain ⟨-, -, rfl⟩ := hv
        exact ⟨by have := hr.1.2.1; omega, hr.1.2.2.1⟩
      unfold maxLen at hcap
      have S0 := Lib.hid (ho.out.stored (m * 5) (.int .i64 (k + 5 * m)))
      have S1 := Lib.hid (S0.out.1.stored (m * 5 + 1) (.int .i64 (k + 5 * m + 1)))
      have S2 := Lib.hid (S1.out.1.stored (m * 5 + 1 + 1) (.int .i64 (k + 5 * m + 1 + 1)))
      have S3 := Lib.hid (S2.out.1.stored (m * 5 + 1 + 2) (.int .i64 (k + 5 * m + 1 + 1 + 1)))
      have S4 := Lib.hid (S3.out.1.stored (m * 5 + 1 + 3) (.int .i64 (k + 5 * m + 1 + 1 + 1 + 1)))
      have hfl := Lib.hid (flat_setI (halfI xs n k m) m (markIt k m) (by omega))
      clear ho
      go_wp2
      go_roundw
      case rel =>
        refine ⟨m + 1, by omega, by go_num, by go_num, Lib.hid ?_, Lib.hid ?_⟩
        · rw [hst.out, ← hfl.out]
          exact S4.out.1
        · exact grown_trans hg.out (grown_trans S0.out.2 (grown_trans S1.out.2 (grown_trans S2.out.2 (grown_trans S3.out.2 S4.out.2))))
      case measure => simp [intOf]; omega
    · obtain rfl : m = n := by omega
      go_wp2
      go_ret
      refine ⟨rfl, ?_, hg.out⟩
      rw [← halfI_end xs m k]
      exact ho.out
end Go.Proofs.Ytfgmjegemlkkkaa

/- Owned slices of structs that lie apart. -/
namespace Go.Proofs.Ytfgmjegemlkkkaa
open Go.RowKit
section
variable {α β : Type} {L : Lay α} {M : Lay β} {w w' : World} {e e' : TypeId} {base base' : Nat} {v v' : Value} {xs : List α} {ys : List β}
theorem OwnS.keptApart (h : OwnS L e w base v xs) (hg : w.grownBy w' v'.ownBlock) (ha : Apart v v') : OwnS L e w' base v xs := by
  refine OwnS.kept h hg ?_
  cases hv : v.ownBlock with
  | none => exact .inl rfl
  | some g => exact .inr fun e => ha g hv e.symm
theorem ownS_apart (h : OwnS L e w base v xs) (h' : OwnS M e' w' base' v' ys) (hb : w.heap.size ≤ base') : Apart v v' := by
  intro g hv hv'
  have h1 := World.ownsRow.lt h g hv
  have h2 := World.ownsRow.lt h' g hv'
  omega
theorem OwnS.lt (h : OwnS L e w base v xs) : ∀ g, v.ownBlock = some g → base ≤ g ∧ g < w.heap.size := World.ownsRow.lt h
theorem rdS_owns {a : Option Addr} {n cap : Nat} (h : OwnS L e w base (.slice a n cap) xs) : RdS L w a xs.length cap xs := by
  obtain ⟨a', c', hv, hr⟩ := h.rd
  simp only [Value.slice.injEq] at hv
  obtain ⟨rfl, -, rfl⟩ := hv
  exact hr
theorem rdS_owns' {a : Option Addr} {n cap : Nat} (h : w.ownsRow base e L.sz (.slice a n cap) n (xs.flatMap L.cells)) (hl : xs.length = n) : RdS L w a n cap xs := by
  subst hl
  exact rdS_owns (e := e) (base := base) h
end
end Go.Proofs.Ytfgmjegemlkkkaa

/- The laws' own helpers on nodes: a copy, how large, equality, marks. -/
namespace Go.Proofs.Ytfgmjegemlkkkaa
open Go.RowKit

theorem size_alloc3 (w : World) (a b c : Obj) : (((w.alloc a).alloc b).alloc c).heap.size = w.heap.size + 1 + 1 + 1 := by simp
theorem ownS_set {w : World} {e : TypeId} {base g : Nat} {v : Value} {xs : List It} (h : OwnS itLay e w base v xs) (hg : v.ownBlock = some g → False) (j : Nat) (u : Value) : OwnS itLay e (w.setCell ⟨g, j, none⟩ u) base v xs := by
  refine OwnS.kept h (grown_setCell (World.grownBy.refl _ _) g j u rfl) ?_
  cases hv : v.ownBlock with
  | none => exact .inl rfl
  | some i => exact .inr fun e => hg (hv.trans e)
/-- A node in new memory: its entries are owned. -/
def NewNode (b : Bool) (xs : List It) (w : World) (e : Ending) (w' : World) : Prop := ∃ v, e = .returned (.agg #[.bool b, v]) ∧ OwnS itLay 35 w' w.heap.size v xs ∧ Below w.heap.size w w'

set_option maxRecDepth 100000 in
set_option maxHeartbeats 800000 in
/-- laws.toNode: a copy in new memory. -/
theorem toNode_any (b : Bool) (a : Option Addr) (n cap : Nat) (xs : List It) (w : World) (h : RdS itLay w a n cap xs) (hn : n ≤ 4398046511104) :
    Calls Try.prog 25 #[.agg #[.bool b, .slice a n cap]] w (NewNode b xs w) := by
  have K := blk_alloc (.cells #[.bool b, .slice none 0 0] 26) (by simp) _ _ (blk_new1 w (.cells #[.bool b, .slice a n cap] 47) #[.bool false, .slice none 0 0] 26)
  have J := blk_new2 w (.cells #[.bool b, .slice a n cap] 47) (.cells #[.bool false, .slice none 0 0] 26) #[.bool b, .slice none 0 0] 26
  have B0 : Below w.heap.size w (((w.alloc (.cells #[.bool b, .slice a n cap] 47)).alloc (.cells #[.bool false, .slice none 0 0] 26)).alloc (.cells #[.bool b, .slice none 0 0] 26)) := (((Below.refl _ _).alloc (Nat.le_refl _) _).alloc (by simp) _).alloc (by simp; omega) _
  replace K := Lib.hid K
  replace J := Lib.hid J
  go_enter Try.func25, Try.ntmps25
  go_wp2_with fail
  refine (toEntryS_any a n cap xs _ (h.below B0) hn).mono ?_
  rintro e w1 ⟨v, rfl, ho, hb⟩
  obtain ⟨av, cv, rfl, hr⟩ := ho.rd
  have s1 := hb.size
  simp at s1
  obtain ⟨k0, f0⟩ := below_keep hb (by simp) _ _ K.out
  obtain ⟨j0, g0⟩ := below_keep hb (by simp) _ _ J.out
  have HO := Lib.hid ho
  have B := Lib.hid (B0.trans (hb.mono (by simp; omega)))
  clear ho hr hb B0 h
  have hne : w.heap.size + 1 ≠ w.heap.size + 1 + 1 := by omega
  go_wp2
  refine bodyPost_ret (v := .agg #[.bool b, .slice av xs.length cv]) (by simp [results, Try.results25, go_sem, k0]) rfl ⟨_, rfl, ?_, ?_⟩
  · refine OwnS.mono (L := itLay) (base' := w.heap.size + 1 + 1 + 1) ?_ (by omega)
    have hap : ∀ j, (Value.slice av xs.length cv).ownBlock = some j → w.heap.size + 1 + 1 + 1 ≤ j := fun j hj => by have := (HO.out.lt j hj).1; simpa using this
    have O := HO.out
    simp only [size_alloc3] at O
    refine ownS_set (ownS_set (ownS_set O ?_ _ _) ?_ _ _) ?_ _ _ <;> (intro hj; have := hap _ hj; omega)
  · exact ((B.out.setCell (p := ⟨w.heap.size + 1 + 1, 1, none⟩) (show w.heap.size ≤ w.heap.size + 1 + 1 by omega) _).setCell (p := ⟨w.heap.size + 1, 0, none⟩) (show w.heap.size ≤ w.heap.size + 1 by omega) _).setCell (p := ⟨w.heap.size + 1, 1, none⟩) (show w.heap.size ≤ w.heap.size + 1 by omega) _

set_option maxRecDepth 100000 in
set_option maxHeartbeats 400000 in
/-- laws.szNode. -/
theorem szNode_any (b : Bool) (a : Option Addr) (n cap : Nat) (left : Int) (w : World) (hn : n ≤ maxLen) (hl : 0 ≤ left ∧ left ≤ 1048576) :
    Calls Try.prog 24 #[.agg #[.bool b, .slice a n cap], .int .i64 left] w fun e w' => e = .returned (.int .i64 (if left - n < 0 then -1 else left - n)) ∧ Below w.heap.size w w' := by
  have C := Lib.hid (fun W : World => szEntryS_any a n cap left W hn hl)
  by_cases h : left - n < 0
  · rw [if_pos h] at C ⊢
    go_enter Try.func24, Try.ntmps24
    go_wp2_with fail
    refine (C.out _).mono ?_
    rintro e w1 ⟨rfl, rfl⟩
    go_wp2
    go_ret
    exact ⟨rfl, new_below _ _⟩
  · rw [if_neg h] at C ⊢
    have h2 : ¬ left - (n : Int) < 0 := h
    go_enter Try.func24, Try.ntmps24
    go_wp2_with fail
    refine (C.out _).mono ?_
    rintro e w1 ⟨rfl, rfl⟩
    go_wp2
    go_ret
    exact ⟨rfl, new_below _ _⟩

set_option maxRecDepth 100000 in
set_option maxHeartbeats 800000 in
/-- laws.eqNode: two nodes that read alike. -/
theorem eqNode_same (c : Bool) (a b : Option Addr) (n c1 c2 : Nat) (xs : List It) (w : World) (h : RdS itLay w a n c1 xs) (h' : RdS itLay w b n c2 xs) (hn : n ≤ 4398046511104) :
    Calls Try.prog 27 #[.agg #[.bool c, .slice a n c1], .agg #[.bool c, .slice b n c2]] w fun e w' => e = .returned (.bool true) ∧ Below w.heap.size w w' := by
  have B0 : Below w.heap.size w ((w.alloc (.cells #[.bool c, .slice a n c1] 26)).alloc (.cells #[.bool c, .slice b n c2] 26)) := ((Below.refl _ _).alloc (Nat.le_refl _) _).alloc (by simp) _
  go_enter Try.func27, Try.ntmps27
  go_wp2_with fail
  refine (eqEntryS_same a b n c1 c2 xs _ (h.below B0) (h'.below B0) hn).mono ?_
  rintro e w1 ⟨rfl, hb⟩
  go_wp2
  go_ret
  exact ⟨rfl, B0.trans (hb.mono (by simp; omega))⟩

set_option maxRecDepth 100000 in
set_option maxHeartbeats 800000 in
/-- laws.markNode: writes k, k + 1, .. into the entries that are owned. -/
theorem markNode_any (c : Bool) (a : Option Addr) (n cap : Nat) (xs : List It) (k : Int) (base : Nat) (w : World) (h : w.ownsRow base 35 5 (.slice a n cap) n (xs.flatMap itLay.cells)) (hz : xs.length = n) (hk0 : 0 ≤ k) (hk : k ≤ 1000000000) (hn : n ≤ 1000000000) :
    Calls Try.prog 28 #[.agg #[.bool c, .slice a n cap], .int .i64 k] w fun e w' =>
      e = .returned (.int .i64 (k + 5 * n)) ∧ w'.ownsRow base 35 5 (.slice a n cap) n ((markedI n k).flatMap itLay.cells) ∧ w.grownBy w' (Value.slice a n cap).ownBlock := by
  have H := Lib.hid (World.ownsRow.alloc h (.cells #[.bool c, .slice a n cap] 26))
  clear h
  go_enter Try.func28, Try.ntmps28
  go_wp2_with fail
  refine (markEntryS_any a n cap xs k base _ H.out hz hk0 hk hn).mono ?_
  rintro e w1 ⟨rfl, ho, hg⟩
  have HO := Lib.hid ho
  have HG := Lib.hid (grown_trans (World.grownBy_alloc w (.cells #[.bool c, .slice a n cap] 26) _) hg)
  clear ho hg
  go_wp2
  go_ret
  exact ⟨rfl, HO.out, HG.out⟩

set_option maxRecDepth 100000 in
set_option maxHeartbeats 800000 in
/-- laws.heldNode: a node that reads as it was marked. -/
theorem heldNode_any (c : Bool) (a : Option Addr) (n cap : Nat) (k : Int) (w : World) (h : RdS itLay w a n cap (markedI n k)) (hk0 : 0 ≤ k) (hk : k ≤ 1000000000) (hn : n ≤ 1000000000) :
    Calls Try.prog 32 #[.agg #[.bool c, .slice a n cap], .int .i64 k] w fun e w' => e = .returned (.int .i64 (k + 5 * n)) ∧ Below w.heap.size w w' := by
  have h0 : ¬ k + 5 * (n : Int) < 0 := by omega
  go_enter Try.func32, Try.ntmps32
  go_wp2_with fail
  refine (heldEntryS_any a n cap k _ (h.below (new_below w _)) hk0 hk hn).mono ?_
  rintro e w1 ⟨rfl, rfl⟩
  go_wp2
  go_ret
  exact ⟨rfl, new_below _ _⟩
end Go.Proofs.Ytfgmjegemlkkkaa

/- The model's NodeOk: at most four entries, each valid, no number twice. -/
namespace Go.Proofs.Ytfgmjegemlkkkaa
open Go.RowKit

def entOk (b : Bool) (xs : List It) (x : It) (k : Int) : Bool := okB x.x0 x.y0 x.x1 x.y1 && (atV x.id xs 0 == k) && (if b then inB x.id 1 999 else inB x.id 0 47)
def nodeAll (b : Bool) (xs : List It) : List It → Int → Bool
  | [], _ => true
  | x :: l, k => entOk b xs x k && nodeAll b xs l (k + 1)
theorem nodeAll_no {b : Bool} {xs : List It} {k : Nat} {x : It} (hx : xs[k]? = some x) (h : entOk b xs x k = false) : nodeAll b xs (xs.drop k) k = false := by rw [drop_at hx, nodeAll, h]; rfl
theorem nodeAll_yes {b : Bool} {xs : List It} {k : Nat} {x : It} (hx : xs[k]? = some x) (h : entOk b xs x k = true) : nodeAll b xs (xs.drop k) k = nodeAll b xs (xs.drop (k + 1)) ((k + 1 : Nat) : Int) := by rw [drop_at hx, nodeAll, h]; simp
theorem nodeAll_end (b : Bool) (xs : List It) (n : Nat) (h : xs.length ≤ n) : nodeAll b xs (xs.drop n) n = true := by rw [List.drop_eq_nil_of_le h]; rfl
def nodeOkV (b : Bool) (xs : List It) : Bool := nodeAll b xs xs 0 && (decide (xs.length ≤ 4) && (b || decide (0 < xs.length)))
theorem nodeOkV_no {b : Bool} {xs : List It} (h : nodeAll b xs xs 0 = false) : nodeOkV b xs = false := by unfold nodeOkV; rw [h]; rfl
theorem keepc {W W' : World} {q : Nat} {f : Nat → Option Value} (hb : Below W.heap.size W W') (hq : q < W.heap.size) (h : ∀ o, W.cell? ⟨q, o, none⟩ = f o) : ∀ o, W'.cell? ⟨q, o, none⟩ = f o := fun o => (hb.cell (p := ⟨q, o, none⟩) hq).trans (h o)

set_option maxRecDepth 100000 in
set_option maxHeartbeats 3200000 in
theorem sNodeOk_any (b : Bool) (a : Option Addr) (n cap : Nat) (xs : List It) (w : World) (h : RdS itLay w a n cap xs) :
    Calls Try.prog 53 #[.agg #[.bool b, .slice a n cap]] w fun e w' => e = .returned (.bool (nodeOkV b xs)) ∧ Below w.heap.size w w' := by
  have hm := h.1.2.2.1
  have hnc := h.1.2.1
  unfold maxLen at hm
  have HR := Lib.hid h
  have HL := Lib.hid h.1.1
  clear h
  have B0 : Below w.heap.size w (w.alloc (.cells #[.bool b, .slice a n cap] 26)) := new_below w _
  have K0 := (blk_new w #[.bool b, .slice a n cap] 26).1
  go_enter Try.func53, Try.ntmps53
  go_wp2
  go_loopw [3] (fun i wr => ∃ k : Nat, k ≤ n ∧ i = .int .i64 (k : Int) ∧ nodeAll b xs xs 0 = nodeAll b xs (xs.drop k) k ∧ (∀ o, wr.cell? ⟨w.heap.size, o, none⟩ = #[Value.bool b, .slice a n cap][o]?) ∧ Below w.heap.size w wr ∧ w.heap.size < wr.heap.size) (fun i _ => n - (intOf i).toNat)
  case atStart => exact ⟨0, Nat.zero_le _, rfl, rfl, K0, B0, by simp⟩
  case round =>
    obtain ⟨k, hk, rfl, hA, kn, BB, hS⟩ := hrel
    have HA := Lib.hid hA
    clear hA K0 B0
    by_cases hlt : k < n
    · obtain ⟨bb, off, x, e2, hbl, hx, d0, d1, d2, d3, d4⟩ := rdIt_at (HR.out.below BB) hlt
      subst e2
      have HX := Lib.hid hx
      have z0 : (0 : Int) ≤ k := by omega
      have z1 : (k : Int) < n := by omega
      clear hx
      have ke := (blk_new wr #[Value.int .i64 x.id, .int .i64 x.x0, .int .i64 x.y0, .int .i64 x.x1, .int .i64 x.y1] 35).1
      have kn2 : ∀ o, (wr.alloc (.cells #[Value.int .i64 x.id, .int .i64 x.x0, .int .i64 x.y0, .int .i64 x.x1, .int .i64 x.y1] 35)).cell? ⟨w.heap.size, o, none⟩ = #[Value.bool b, .slice (some ⟨bb, off, none⟩) n cap][o]? := fun o => (World.cell?_alloc_lt wr _ ⟨w.heap.size, o, none⟩ hS).trans (kn o)
      go_upto_region 5 with (fail)
      replace BB := BB.alloc (by omega) (.cells #[Value.int .i64 x.id, .int .i64 x.x0, .int .i64 x.y0, .int .i64 x.x1, .int .i64 x.y1] 35)
      clear kn
      have kn := kn2
      clear kn2
      have C1 := sBoxOk_any x.x0 x.y0 x.x1 x.y1
      cases h1 : okB x.x0 x.y0 x.x1 x.y1 with
      | false =>
        rw [h1] at C1
        replace C1 := Lib.hid C1
        have hr : Hid (nodeAll b xs xs 0 = false) := HA.out.trans (nodeAll_no HX.out (by unfold entOk; rw [h1]; rfl))
        clear h1
        go_wp2_with fail
        refine (C1.out _).mono ?_
        rintro e w1 ⟨rfl, hj⟩
        have ke1 := keepc hj (show wr.heap.size < _ by first | omega | (simp; done) | (simp; omega)) ke
        have kn1 := keepc hj (show w.heap.size < _ by first | omega | (simp; done) | (simp; omega)) kn
        replace BB := BB.trans (hj.mono BB.size)
        have sz := hj.size
        try simp at sz
        clear hj ke kn
        have ke := ke1
        have kn := kn1
        clear ke1 kn1
        go_wp2
        go_ret
        exact ⟨ret_bool (nodeOkV_no hr.out).symm, BB⟩
      | true =>
        rw [h1] at C1
        replace C1 := Lib.hid C1
        by_cases h : atV x.id xs 0 = k
        · have C2 : ∀ V, RdS itLay V (some ⟨bb, off, none⟩) n cap xs → _ := fun V hV => sEntryAt_any (some ⟨bb, off, none⟩) n cap xs x.id V hV
          rw [h] at C2
          replace C2 := Lib.hid C2
          cases b with
          | true =>
            have C3 := l1In_any x.id 1 999
            cases h3 : inB x.id 1 999 with
            | false =>
              have hr := Lib.hid (HA.out.trans (nodeAll_no HX.out (by unfold entOk; rw [h1, h, h3]; simp)))
              rw [h3] at C3
              replace C3 := Lib.hid C3
              clear h h1 h3
              go_wp2_with fail
              refine (C1.out _).mono ?_
              rintro e w1 ⟨rfl, hj⟩
              have ke1 := keepc hj (show wr.heap.size < _ by first | omega | (simp; done) | (simp; omega)) ke
              have kn1 := keepc hj (show w.heap.size < _ by first | omega | (simp; done) | (simp; omega)) kn
              replace BB := BB.trans (hj.mono BB.size)
              have sz := hj.size
              try simp at sz
              clear hj ke kn
              have ke := ke1
              have kn := kn1
              clear ke1 kn1
              go_wp2_with fail
              refine (C2.out _ (HR.out.below BB)).mono ?_
              rintro e w2 ⟨rfl, hj⟩
              have ke2 := keepc hj (show wr.heap.size < _ by first | omega | (simp; done) | (simp; omega)) ke
              have kn2 := keepc hj (show w.heap.size < _ by first | omega | (simp; done) | (simp; omega)) kn
              replace BB := BB.trans (hj.mono BB.size)
              have sz := hj.size
              try simp at sz
              clear hj ke kn
              have ke := ke2
              have kn := kn2
              clear ke2 kn2
              go_wp2_with fail
              refine (C3.out _).mono ?_
              rintro e w3 ⟨rfl, rfl⟩
              go_wp2
              go_ret
              exact ⟨ret_bool (nodeOkV_no hr.out).symm, BB⟩
            | true =>
              have hr := Lib.hid (HA.out.trans (nodeAll_yes HX.out (by unfold entOk; rw [h1, h, h3]; simp)))
              rw [h3] at C3
              replace C3 := Lib.hid C3
              clear h h1 h3
              go_wp2_with fail
              refine (C1.out _).mono ?_
              rintro e w1 ⟨rfl, hj⟩
              have ke1 := keepc hj (show wr.heap.size < _ by first | omega | (simp; done) | (simp; omega)) ke
              have kn1 := keepc hj (show w.heap.size < _ by first | omega | (simp; done) | (simp; omega)) kn
              replace BB := BB.trans (hj.mono BB.size)
              have sz := hj.size
              try simp at sz
              clear hj ke kn
              have ke := ke1
              have kn := kn1
              clear ke1 kn1
              go_wp2_with fail
              refine (C2.out _ (HR.out.below BB)).mono ?_
              rintro e w2 ⟨rfl, hj⟩
              have ke2 := keepc hj (show wr.heap.size < _ by first | omega | (simp; done) | (simp; omega)) ke
              have kn2 := keepc hj (show w.heap.size < _ by first | omega | (simp; done) | (simp; omega)) kn
              replace BB := BB.trans (hj.mono BB.size)
              have sz := hj.size
              try simp at sz
              clear hj ke kn
              have ke := ke2
              have kn := kn2
              clear ke2 kn2
              go_wp2_with fail
              refine (C3.out _).mono ?_
              rintro e w3 ⟨rfl, rfl⟩
              have kn' := kn
              go_wp2
              go_roundw
              case rel => exact ⟨k + 1, by omega, by go_num, hr.out, kn', BB, by omega⟩
              case measure => simp [intOf]; omega
          | false =>
            have C3 := l1In_any x.id 0 47
            cases h3 : inB x.id 0 47 with
            | false =>
              have hr := Lib.hid (HA.out.trans (nodeAll_no HX.out (by unfold entOk; rw [h1, h, h3]; simp)))
              rw [h3] at C3
              replace C3 := Lib.hid C3
              clear h h1 h3
              go_wp2_with fail
              refine (C1.out _).mono ?_
              rintro e w1 ⟨rfl, hj⟩
              have ke1 := keepc hj (show wr.heap.size < _ by first | omega | (simp; done) | (simp; omega)) ke
              have kn1 := keepc hj (show w.heap.size < _ by first | omega | (simp; done) | (simp; omega)) kn
              replace BB := BB.trans (hj.mono BB.size)
              have sz := hj.size
              try simp at sz
              clear hj ke kn
              have ke := ke1
              have kn := kn1
              clear ke1 kn1
              go_wp2_with fail
              refine (C2.out _ (HR.out.below BB)).mono ?_
              rintro e w2 ⟨rfl, hj⟩
              have ke2 := keepc hj (show wr.heap.size < _ by first | omega | (simp; done) | (simp; omega)) ke
              have kn2 := keepc hj (show w.heap.size < _ by first | omega | (simp; done) | (simp; omega)) kn
              replace BB := BB.trans (hj.mono BB.size)
              have sz := hj.size
              try simp at sz
              clear hj ke kn
              have ke := ke2
              have kn := kn2
              clear ke2 kn2
              go_wp2_with fail
              refine (C3.out _).mono ?_
              rintro e w3 ⟨rfl, rfl⟩
              go_wp2
              go_ret
              exact ⟨ret_bool (nodeOkV_no hr.out).symm, BB⟩
            | true =>
              have hr := Lib.hid (HA.out.trans (nodeAll_yes HX.out (by unfold entOk; rw [h1, h, h3]; simp)))
              rw [h3] at C3
              replace C3 := Lib.hid C3
              clear h h1 h3
              go_wp2_with fail
              refine (C1.out _).mono ?_
              rintro e w1 ⟨rfl, hj⟩
              have ke1 := keepc hj (show wr.heap.size < _ by first | omega | (simp; done) | (simp; omega)) ke
              have kn1 := keepc hj (show w.heap.size < _ by first | omega | (simp; done) | (simp; omega)) kn
              replace BB := BB.trans (hj.mono BB.size)
              have sz := hj.size
              try simp at sz
              clear hj ke kn
              have ke := ke1
              have kn := kn1
              clear ke1 kn1
              go_wp2_with fail
              refine (C2.out _ (HR.out.below BB)).mono ?_
              rintro e w2 ⟨rfl, hj⟩
              have ke2 := keepc hj (show wr.heap.size < _ by first | omega | (simp; done) | (simp; omega)) ke
              have kn2 := keepc hj (show w.heap.size < _ by first | omega | (simp; done) | (simp; omega)) kn
              replace BB := BB.trans (hj.mono BB.size)
              have sz := hj.size
              try simp at sz
              clear hj ke kn
              have ke := ke2
              have kn := kn2
              clear ke2 kn2
              go_wp2_with fail
              refine (C3.out _).mono ?_
              rintro e w3 ⟨rfl, rfl⟩
              have kn' := kn
              go_wp2
              go_roundw
              case rel => exact ⟨k + 1, by omega, by go_num, hr.out, kn', BB, by omega⟩
              case measure => simp [intOf]; omega
        · have C2 : ∀ V, RdS itLay V (some ⟨bb, off, none⟩) n cap xs → _ := fun V hV => sEntryAt_any (some ⟨bb, off, none⟩) n cap xs x.id V hV
          replace C2 := Lib.hid C2
          have hne : ((atV x.id xs 0) != (k : Int)) = true := by rw [bne_iff_ne]; exact h
          have hr := Lib.hid (HA.out.trans (nodeAll_no HX.out (by unfold entOk; rw [beq_eq_false_iff_ne.2 h]; simp)))
          clear h h1
          go_wp2_with fail
          refine (C1.out _).mono ?_
          rintro e w1 ⟨rfl, hj⟩
          have ke1 := keepc hj (show wr.heap.size < _ by first | omega | (simp; done) | (simp; omega)) ke
          have kn1 := keepc hj (show w.heap.size < _ by first | omega | (simp; done) | (simp; omega)) kn
          replace BB := BB.trans (hj.mono BB.size)
          have sz := hj.size
          try simp at sz
          clear hj ke kn
          have ke := ke1
          have kn := kn1
          clear ke1 kn1
          go_wp2_with fail
          refine (C2.out _ (HR.out.below BB)).mono ?_
          rintro e w2 ⟨rfl, hj⟩
          have ke2 := keepc hj (show wr.heap.size < _ by first | omega | (simp; done) | (simp; omega)) ke
          have kn2 := keepc hj (show w.heap.size < _ by first | omega | (simp; done) | (simp; omega)) kn
          replace BB := BB.trans (hj.mono BB.size)
          have sz := hj.size
          try simp at sz
          clear hj ke kn
          have ke := ke2
          have kn := kn2
          clear ke2 kn2
          go_wp2
          go_ret
          exact ⟨ret_bool (nodeOkV_no hr.out).symm, BB⟩
    · obtain rfl : k = n := by omega
      have hF : nodeAll b xs xs 0 = true := HA.out.trans (nodeAll_end b xs k (by rw [HL.out]; exact Nat.le_refl _))
      have hV : nodeOkV b xs = (decide (k ≤ 4) && (b || decide (0 < k))) := by unfold nodeOkV; rw [hF, HL.out]; rfl
      have HV := Lib.hid hV
      clear hF hV
      by_cases h4 : (k : Int) ≤ 4
      · cases b with
        | true =>
          have hr : Hid (nodeOkV true xs = true) := by show _ = _; rw [HV.out]; simp; omega
          go_wp2
          go_ret
          exact ⟨ret_bool hr.out.symm, BB⟩
        | false =>
          by_cases h0 : 0 < k
          · have hr : Hid (nodeOkV false xs = true) := by show _ = _; rw [HV.out]; simp; omega
            go_wp2
            go_ret
            exact ⟨ret_bool hr.out.symm, BB⟩
          · have hr : Hid (nodeOkV false xs = false) := by show _ = _; rw [HV.out]; simp; omega
            go_wp2
            go_ret
            exact ⟨ret_bool hr.out.symm, BB⟩
      · have hr : Hid (nodeOkV b xs = false) := by show _ = _; rw [HV.out]; simp; omega
        go_wp2
        go_ret
        exact ⟨ret_bool hr.out.symm, BB⟩
end Go.Proofs.Ytfgmjegemlkkkaa

/- The model's PutNode. -/
namespace Go.Proofs.Ytfgmjegemlkkkaa
open Go.RowKit

/-- The first byte of a node. -/
def headN (b : Bool) (n : Nat) : Int := if b then (n : Int) + 16 else n
/-- A node's bytes ahead of the zeros. -/
def bodyN (b : Bool) (xs : List It) : List Int := headN b xs.length :: xs.flatMap putE
def putN (b : Bool) (xs : List It) : List Int := if nodeOkV b xs then pad (bodyN b xs) 25 else []
theorem putE_le (x : It) : (putE x).length ≤ 6 := by unfold putE; split <;> simp
theorem flatE_le (xs : List It) : (xs.flatMap putE).length ≤ 6 * xs.length := by
  induction xs with
  | nil => simp
  | cons x l ih => have := putE_le x; simp only [List.flatMap_cons, List.length_append, List.length_cons]; omega
theorem nodeOkV_len {b : Bool} {xs : List It} (h : nodeOkV b xs = true) : xs.length ≤ 4 := by
  unfold nodeOkV at h
  simp only [Bool.and_eq_true, decide_eq_true_eq] at h
  exact h.2.1
/-- What stands after k rounds. -/
def partN (b : Bool) (xs : List It) (k : Nat) : List Int := headN b xs.length :: (xs.take k).flatMap putE
theorem partN_more {b : Bool} {xs : List It} {k : Nat} {x : It} (h : xs[k]? = some x) : partN b xs (k + 1) = partN b xs k ++ putE x := by
  unfold partN
  rw [List.take_add_one, h, List.flatMap_append]
  simp
theorem partN_all {b : Bool} {xs : List It} {k : Nat} (h : xs.length ≤ k) : partN b xs k = bodyN b xs := by unfold partN bodyN; rw [List.take_of_length_le h]
theorem partN_le (b : Bool) (xs : List It) (k : Nat) : (partN b xs k).length ≤ 1 + 6 * xs.length := by
  have h1 := flatE_le (xs.take k)
  have h2 : (xs.take k).length ≤ xs.length := by rw [List.length_take]; omega
  simp only [partN, List.length_cons]
  omega
theorem partN_nil (b : Bool) (xs : List It) : partN b xs 0 = [headN b xs.length] := by simp [partN]

theorem fresh_cells {wr w2 : World} {v : Value} {B q : Nat} {fo : Nat → Option Value} (hg : wr.grownBy w2 v.ownBlock) (hrow : ∀ j, v.ownBlock = some j → B ≤ j) (h : ∀ o, wr.cell? ⟨q, o, none⟩ = fo o) (hs : q < wr.heap.size) (hb : q < B) : ∀ o, w2.cell? ⟨q, o, none⟩ = fo o := by
  intro o
  have hblk : w2.heap[q]? = wr.heap[q]? := hg.block q hs (fun e => by have := hrow q e.symm; omega)
  rw [← h o]
  unfold World.cell?
  simp only [hblk]

set_option maxHeartbeats 3200000 in
set_option maxRecDepth 100000 in
theorem sPutNode_yes (b : Bool) (a : Option Addr) (n cap : Nat) (xs : List It) (w : World) (h : RdS itLay w a n cap xs) (hok : nodeOkV b xs = true) :
    Calls Try.prog 19 #[.agg #[.bool b, .slice a n cap]] w (Fresh8 w (pad (bodyN b xs) 25)) := by
  obtain ⟨i0, hi, hz0, hz1, hz2⟩ := info_parts Try.infoU8
  replace hi := Lib.hid hi
  replace hz0 := Lib.hid hz0
  replace hz1 := Lib.hid hz1
  replace hz2 := Lib.hid hz2
  have h4 := nodeOkV_len hok
  have hnc := h.1.2.1
  have hm := h.1.2.2.1
  unfold maxLen at hm
  have HR := Lib.hid h
  have HL := Lib.hid h.1.1
  rw [h.1.1] at h4
  have B0 := Lib.hid (new_below w (.cells #[.bool b, .slice a n cap] 26))
  have K0 := Lib.hid (blk_new w #[.bool b, .slice a n cap] 26)
  have CN := sNodeOk_any b a n cap xs _ (h.below B0.out)
  rw [hok] at CN
  replace CN := Lib.hid CN
  have k00 := K0.out.1 0
  have k01 := K0.out.1 1
  simp at k00 k01
  clear h hok
  go_enter Try.func19, Try.ntmps19
  go_wp2_with fail
  refine CN.out.mono ?_
  rintro e w1 ⟨rfl, hb⟩
  obtain ⟨k0, -⟩ := below_keep hb (by simp) _ _ K0.out
  have B1 := Lib.hid (B0.out.trans (hb.mono B0.out.size))
  have s1 := hb.size
  simp at s1
  clear hb k00 k01 K0
  have c0 := k0 0
  have c1 := k0 1
  simp at c0 c1
  cases b with
  | true =>
    have hh : headN true n = (n : Int) + 16 := if_pos rfl
    have hqw : IntKind.u8.wrap ((n : Int) + 16) = (n : Int) + 16 := u8_wrap (by omega) (by omega)
    have O1 : Hid (Own .u8 5 (w1.alloc (.cells #[.int .u8 ((n : Int) + 16)] 5)) (w.heap.size + 1) (.slice (some ⟨w1.heap.size, 0, none⟩) 1 1) (partN true xs 0)) := by
      rw [partN_nil, HL.out, hh]
      exact Lib.hid (World.ownsRow_lit w1 #[.int .u8 ((n : Int) + 16)] 1 (by omega) (by simp [maxLen]) rfl)
    have hS1 := Lib.hid (show w.heap.size + 1 ≤ (w1.alloc (.cells #[.int .u8 ((n : Int) + 16)] 5)).heap.size by simp; omega)
    have k1 := Lib.hid (show ∀ o, (w1.alloc (.cells #[.int .u8 ((n : Int) + 16)] 5)).cell? ⟨w.heap.size, o, none⟩ = #[Value.bool true, .slice a n cap][o]? from fun o => (World.cell?_alloc_lt w1 _ ⟨w.heap.size, o, none⟩ (by show w.heap.size < _; omega)).trans (k0 o))
    replace B1 := Lib.hid (B1.out.alloc B1.out.size (.cells #[.int .u8 ((n : Int) + 16)] 5))
    have hl1 := Lib.hid (show (partN true xs 0).length = 1 by rw [partN_nil]; rfl)
    clear hh
    go_wp2
    clear c0 c1 k0 hqw
    go_loopw [4, 5] (fun v i wr => ∃ (k m : Nat) (va : Option Addr) (vc : Nat), k ≤ n ∧ v = .slice va m vc ∧ i = .int .i64 (k : Int) ∧ Hid ((partN true xs k).length = m) ∧ (∀ o, wr.cell? ⟨w.heap.size, o, none⟩ = #[Value.bool true, .slice a n cap][o]?) ∧ Hid (Own .u8 5 wr (w.heap.size + 1) (.slice va m vc) (partN true xs k)) ∧ Below w.heap.size w wr ∧ w.heap.size + 1 ≤ wr.heap.size) (fun _ i _ => n - (intOf i).toNat)
    case atStart => exact ⟨0, 1, _, _, Nat.zero_le _, rfl, rfl, hl1, k1.out, O1, B1.out, hS1.out⟩
    case round =>
      clear hl1 k1 O1 B1 hS1
      obtain ⟨k, m, va, vc, hk, rfl, rfl, hl, k0, HO, hB, hS⟩ := hrel
      have c1 := k0 1
      simp at c1
      by_cases hlt : k < n
      · obtain ⟨bb, off, x, rfl, hbl, hx, d0, d1, d2, d3, d4⟩ := rdIt_at (HR.out.below hB) hlt
        have HX := Lib.hid hx
        have z0 : (0 : Int) ≤ k := by omega
        have z1 : (k : Int) < n := by omega
        clear hx
        go_wp2_with fail
        refine (sPutEntry_any x wr).mono ?_
        rintro e w2 ⟨v2, rfl, o2, b2⟩
        obtain ⟨a2, c2, rfl, r2⟩ := Own.rd o2
        have k2 := keepc b2 (by show w.heap.size < _; omega) k0
        have HO2 := HO.out.below b2
        have B2 := hB.trans (b2.mono hB.size)
        have s2 := b2.size
        have HO2' : w2.ownsRow (w.heap.size + 1) 5 1 (.slice va m vc) m ((partN true xs k).map (Value.int .u8)) := by
          have := HO2
          unfold Own at this
          rw [hl.out] at this
          exact this
        have HH := Lib.hid HO2'
        have R2 := Lib.hid r2
        have hE := putE_le x
        have hL1 := partN_le true xs k
        rw [HL.out, hl.out] at hL1
        clear o2 b2 HO HO2 HO2' r2 d0 d1 d2 d3 d4
        go_wp2_with (at_builtin; refine append_src rfl (.tmp 27) (.tmp 33) 22 rfl (w.heap.size + 1) 5 i0 (.int .u8 0) 1 1 Try.underlying22 hi.out hz0.out hz1.out hz2.out rfl (by decide) (.slice va m vc) m ((partN true xs k).map (Value.int .u8)) rfl HH.out a2 (putE x).length c2 ((putE x).map (Value.int .u8)) rfl ?_ R2.out.1.2.2.2 R2.out.news (ints_oneCell _ _) ?_ ?_ ?_ ?_)
        case refine_1 => rw [List.length_map, Nat.mul_one]
        case refine_2 => unfold maxLen; omega
        case refine_3 => omega
        case refine_4 => omega
        intro v3 w3 o3 g3
        obtain ⟨a3, c3, rfl⟩ := owns_shape o3
        have hrow : ∀ j, (Value.slice va m vc).ownBlock = some j → w.heap.size + 1 ≤ j := fun j hj => (HH.out.lt j hj).1
        have O3 : Hid (Own .u8 5 w3 (w.heap.size + 1) (.slice a3 (m + (putE x).length) c3) (partN true xs (k + 1))) := by
          unfold Own
          rw [partN_more HX.out, List.length_append, hl.out, List.map_append]
          exact Lib.hid o3
        have hl3 : Hid ((partN true xs (k + 1)).length = m + (putE x).length) := by
          show _ = _
          rw [partN_more HX.out, List.length_append, hl.out]
        have k3 := Lib.hid (fresh_cells g3 hrow k2 (by omega) (by omega))
        have B3 := Lib.hid (B2.grown g3 B2.size (fun j hj => by have := hrow j hj; omega))
        have s3 := g3.size
        clear o3 g3 B2 k2 hB k0 hrow
        go_wp2
        go_roundw
        case rel => exact ⟨k + 1, m + (putE x).length, a3, c3, by omega, by go_num, by go_num, hl3, k3.out, O3, B3.out, by omega⟩
        case measure => simp [intOf]; omega
      · obtain rfl : k = n := by omega
        have hall : Hid (partN true xs k = bodyN true xs) := Lib.hid (partN_all (by rw [HL.out]; exact Nat.le_refl _))
        obtain ⟨a4, c4, hv4, r4⟩ := Own.rd HO.out
        rw [hl.out] at hv4 r4
        simp only [Value.slice.injEq, true_and] at hv4
        obtain ⟨rfl, rfl⟩ := hv4
        have hL1 := partN_le true xs k
        rw [HL.out, hl.out] at hL1
        have CP := Lib.hid (sPad_any va m vc (partN true xs k) 25 wr r4 (by omega) (wf_small 25 (by omega) (by omega)))
        clear r4 HO hL1
        go_wp2_with fail
        refine CP.out.mono ?_
        rintro e w5 ⟨v5, rfl, o5, b5⟩
        rw [hall.out] at o5
        replace o5 := Lib.hid o5
        replace b5 := Lib.hid (hB.trans (b5.mono hB.size))
        go_wp2
        go_ret
        exact ⟨_, rfl, Own.mono o5.out hB.size, b5.out⟩
  | false =>
    have hh : headN false n = (n : Int) := if_neg (by simp)
    have hqw : IntKind.u8.wrap ((n : Int)) = (n : Int) := u8_wrap (by omega) (by omega)
    have O1 : Hid (Own .u8 5 (w1.alloc (.cells #[.int .u8 ((n : Int))] 5)) (w.heap.size + 1) (.slice (some ⟨w1.heap.size, 0, none⟩) 1 1) (partN false xs 0)) := by
      rw [partN_nil, HL.out, hh]
      exact Lib.hid (World.ownsRow_lit w1 #[.int .u8 ((n : Int))] 1 (by omega) (by simp [maxLen]) rfl)
    have hS1 := Lib.hid (show w.heap.size + 1 ≤ (w1.alloc (.cells #[.int .u8 ((n : Int))] 5)).heap.size by simp; omega)
    have k1 := Lib.hid (show ∀ o, (w1.alloc (.cells #[.int .u8 ((n : Int))] 5)).cell? ⟨w.heap.size, o, none⟩ = #[Value.bool false, .slice a n cap][o]? from fun o => (World.cell?_alloc_lt w1 _ ⟨w.heap.size, o, none⟩ (by show w.heap.size < _; omega)).trans (k0 o))
    replace B1 := Lib.hid (B1.out.alloc B1.out.size (.cells #[.int .u8 ((n : Int))] 5))
    have hl1 := Lib.hid (show (partN false xs 0).length = 1 by rw [partN_nil]; rfl)
    clear hh
    go_wp2
    clear c0 c1 k0 hqw
    go_loopw [4, 5] (fun v i wr => ∃ (k m : Nat) (va : Option Addr) (vc : Nat), k ≤ n ∧ v = .slice va m vc ∧ i = .int .i64 (k : Int) ∧ Hid ((partN false xs k).length = m) ∧ (∀ o, wr.cell? ⟨w.heap.size, o, none⟩ = #[Value.bool false, .slice a n cap][o]?) ∧ Hid (Own .u8 5 wr (w.heap.size + 1) (.slice va m vc) (partN false xs k)) ∧ Below w.heap.size w wr ∧ w.heap.size + 1 ≤ wr.heap.size) (fun _ i _ => n - (intOf i).toNat)
    case atStart => exact ⟨0, 1, _, _, Nat.zero_le _, rfl, rfl, hl1, k1.out, O1, B1.out, hS1.out⟩
    case round =>
      clear hl1 k1 O1 B1 hS1
      obtain ⟨k, m, va, vc, hk, rfl, rfl, hl, k0, HO, hB, hS⟩ := hrel
      have c1 := k0 1
      simp at c1
      by_cases hlt : k < n
      · obtain ⟨bb, off, x, rfl, hbl, hx, d0, d1, d2, d3, d4⟩ := rdIt_at (HR.out.below hB) hlt
        have HX := Lib.hid hx
        have z0 : (0 : Int) ≤ k := by omega
        have z1 : (k : Int) < n := by omega
        clear hx
        go_wp2_with fail
        refine (sPutEntry_any x wr).mono ?_
        rintro e w2 ⟨v2, rfl, o2, b2⟩
        obtain ⟨a2, c2, rfl, r2⟩ := Own.rd o2
        have k2 := keepc b2 (by show w.heap.size < _; omega) k0
        have HO2 := HO.out.below b2
        have B2 := hB.trans (b2.mono hB.size)
        have s2 := b2.size
        have HO2' : w2.ownsRow (w.heap.size + 1) 5 1 (.slice va m vc) m ((partN false xs k).map (Value.int .u8)) := by
          have := HO2
          unfold Own at this
          rw [hl.out] at this
          exact this
        have HH := Lib.hid HO2'
        have R2 := Lib.hid r2
        have hE := putE_le x
        have hL1 := partN_le false xs k
        rw [HL.out, hl.out] at hL1
        clear o2 b2 HO HO2 HO2' r2 d0 d1 d2 d3 d4
        go_wp2_with (at_builtin; refine append_src rfl (.tmp 27) (.tmp 33) 22 rfl (w.heap.size + 1) 5 i0 (.int .u8 0) 1 1 Try.underlying22 hi.out hz0.out hz1.out hz2.out rfl (by decide) (.slice va m vc) m ((partN false xs k).map (Value.int .u8)) rfl HH.out a2 (putE x).length c2 ((putE x).map (Value.int .u8)) rfl ?_ R2.out.1.2.2.2 R2.out.news (ints_oneCell _ _) ?_ ?_ ?_ ?_)
        case refine_1 => rw [List.length_map, Nat.mul_one]
        case refine_2 => unfold maxLen; omega
        case refine_3 => omega
        case refine_4 => omega
        intro v3 w3 o3 g3
        obtain ⟨a3, c3, rfl⟩ := owns_shape o3
        have hrow : ∀ j, (Value.slice va m vc).ownBlock = some j → w.heap.size + 1 ≤ j := fun j hj => (HH.out.lt j hj).1
        have O3 : Hid (Own .u8 5 w3 (w.heap.size + 1) (.slice a3 (m + (putE x).length) c3) (partN false xs (k + 1))) := by
          unfold Own
          rw [partN_more HX.out, List.length_append, hl.out, List.map_append]
          exact Lib.hid o3
        have hl3 : Hid ((partN false xs (k + 1)).length = m + (putE x).length) := by
          show _ = _
          rw [partN_more HX.out, List.length_append, hl.out]
        have k3 := Lib.hid (fresh_cells g3 hrow k2 (by omega) (by omega))
        have B3 := Lib.hid (B2.grown g3 B2.size (fun j hj => by have := hrow j hj; omega))
        have s3 := g3.size
        clear o3 g3 B2 k2 hB k0 hrow
        go_wp2
        go_roundw
        case rel => exact ⟨k + 1, m + (putE x).length, a3, c3, by omega, by go_num, by go_num, hl3, k3.out, O3, B3.out, by omega⟩
        case measure => simp [intOf]; omega
      · obtain rfl : k = n := by omega
        have hall : Hid (partN false xs k = bodyN false xs) := Lib.hid (partN_all (by rw [HL.out]; exact Nat.le_refl _))
        obtain ⟨a4, c4, hv4, r4⟩ := Own.rd HO.out
        rw [hl.out] at hv4 r4
        simp only [Value.slice.injEq, true_and] at hv4
        obtain ⟨rfl, rfl⟩ := hv4
        have hL1 := partN_le false xs k
        rw [HL.out, hl.out] at hL1
        have CP := Lib.hid (sPad_any va m vc (partN false xs k) 25 wr r4 (by omega) (wf_small 25 (by omega) (by omega)))
        clear r4 HO hL1
        go_wp2_with fail
        refine CP.out.mono ?_
        rintro e w5 ⟨v5, rfl, o5, b5⟩
        rw [hall.out] at o5
        replace o5 := Lib.hid o5
        replace b5 := Lib.hid (hB.trans (b5.mono hB.size))
        go_wp2
        go_ret
        exact ⟨_, rfl, Own.mono o5.out hB.size, b5.out⟩

set_option maxHeartbeats 400000 in
set_option maxRecDepth 100000 in
theorem sPutNode_any (b : Bool) (a : Option Addr) (n cap : Nat) (xs : List It) (w : World) (h : RdS itLay w a n cap xs) :
    Calls Try.prog 19 #[.agg #[.bool b, .slice a n cap]] w (Fresh8 w (putN b xs)) := by
  cases hok : nodeOkV b xs with
  | true =>
    have hr : putN b xs = pad (bodyN b xs) 25 := if_pos hok
    rw [hr]
    exact sPutNode_yes b a n cap xs w h hok
  | false =>
    have hr : Hid (putN b xs = []) := if_neg (by rw [hok]; exact Bool.false_ne_true)
    have B0 := Lib.hid (new_below w (.cells #[.bool b, .slice a n cap] 26))
    have CN := sNodeOk_any b a n cap xs _ (h.below B0.out)
    rw [hok] at CN
    replace CN := Lib.hid CN
    have K0 := (blk_new w #[.bool b, .slice a n cap] 26).1
    have k00 := K0 0
    have k01 := K0 1
    simp at k00 k01
    clear h hok
    go_enter Try.func19, Try.ntmps19
    go_wp2_with fail
    refine CN.out.mono ?_
    rintro e w1 ⟨rfl, hb⟩
    have B1 := Lib.hid (B0.out.trans (hb.mono B0.out.size))
    clear hb
    go_wp2
    go_ret
    refine ⟨_, rfl, ?_, B1.out.alloc B1.out.size _⟩
    rw [hr.out]
    exact own8_nil w1 w.heap.size w1.heap.size rfl B1.out.size
end Go.Proofs.Ytfgmjegemlkkkaa

/- The model's GetEntry: six bytes of a slice, read as an entry. -/
namespace Go.Proofs.Ytfgmjegemlkkkaa
open Go.RowKit

/-- The entry that six bytes hold, were it valid. -/
def rawE (bs : List Int) (m : Nat) : It := ⟨256 * bs.getD m 0 + bs.getD (m + 1) 0, bs.getD (m + 2) 0, bs.getD (m + 3) 0, bs.getD (m + 4) 0, bs.getD (m + 5) 0⟩
def hasE (bs : List Int) (x : Int) : Bool := decide (0 ≤ x ∧ x ≤ (bs.length : Int) - 6) && okB (rawE bs x.toNat).x0 (rawE bs x.toNat).y0 (rawE bs x.toNat).x1 (rawE bs x.toNat).y1
/-- GetEntry: the entry, or the zero one. -/
def getE (bs : List Int) (x : Int) : It := if hasE bs x then rawE bs x.toNat else zeroIt
def RetE (y : It) (t : Bool) (w : World) (e : Ending) (w' : World) : Prop := e = .returned (.tuple #[.agg #[.int .i64 y.id, .int .i64 y.x0, .int .i64 y.y0, .int .i64 y.x1, .int .i64 y.y1], .bool t]) ∧ Below w.heap.size w w'
theorem hasE_no {bs : List Int} {x : Int} (h : ¬ (0 ≤ x ∧ x ≤ (bs.length : Int) - 6)) : hasE bs x = false := by unfold hasE; rw [decide_eq_false h]; rfl
theorem getE_no {bs : List Int} {x : Int} (h : hasE bs x = false) : getE bs x = zeroIt := by unfold getE; rw [h]; rfl
theorem getE_yes {bs : List Int} {x : Int} (h : hasE bs x = true) : getE bs x = rawE bs x.toNat := by unfold getE; rw [if_pos h]

set_option maxHeartbeats 3200000 in
set_option maxRecDepth 100000 in
theorem sGetEntry_any (a : Option Addr) (n c : Nat) (bs : List Int) (x : Int) (w : World) (h : RdI .u8 w a n c bs) (hz : ∀ j, 0 ≤ bs.getD j 0 ∧ bs.getD j 0 ≤ 255) (hn : n ≤ 100000000) (hx : (Lit.int .i64 x).wf = true) :
    Calls Try.prog 17 #[.slice a n c, .int .i64 x] w (RetE (getE bs x) (hasE bs x) w) := by
  obtain ⟨l0, u0⟩ := bounds_i64 hx
  have HR := Lib.hid h
  have HX := Lib.hid hx
  have J := Lib.hid (blk_new w #[.int .i64 0, .int .i64 0, .int .i64 0, .int .i64 0, .int .i64 0] 35)
  have B0 := Lib.hid (new_below w (.cells #[.int .i64 0, .int .i64 0, .int .i64 0, .int .i64 0, .int .i64 0] 35))
  clear h hx
  by_cases h1 : 0 ≤ x
  · by_cases h2 : x ≤ (n : Int) - 6
    · obtain ⟨m, rfl⟩ := Int.eq_ofNat_of_zero_le h1
      have hle : Hid (decide (0 ≤ (m : Int) ∧ (m : Int) ≤ (bs.length : Int) - 6) = true) := by have := HR.out.1.1; exact Lib.hid (decide_eq_true (by omega))
      have H2 : Hid (get2 bs m = 256 * bs.getD m 0 + bs.getD (m + 1) 0) := by
        have := HR.out.1.1
        show get2 bs m = _
        unfold get2
        rw [if_pos (by omega)]
        simp
      have HR0 := HR.out.2 (by omega)
      obtain ⟨b, off, rfl, hc⟩ := HR0
      obtain ⟨y, hy⟩ : ∃ y, rawE bs m = y := ⟨_, rfl⟩
      have c2 := hc (m + 2) (by omega)
      have c3 := hc (m + 3) (by omega)
      have c4 := hc (m + 4) (by omega)
      have c5 := hc (m + 5) (by omega)
      have hbl : b < w.heap.size := World.block_lt_of_cell? w ⟨b, off + (m + 2), none⟩ c2
      have e2 : bs.getD (m + 2) 0 = y.x0 := by rw [← hy]; rfl
      have e3 : bs.getD (m + 3) 0 = y.y0 := by rw [← hy]; rfl
      have e4 : bs.getD (m + 4) 0 = y.x1 := by rw [← hy]; rfl
      have e5 : bs.getD (m + 5) 0 = y.y1 := by rw [← hy]; rfl
      have e0 : get2 bs m = y.id := by rw [H2.out, ← hy]; rfl
      obtain ⟨b20, b21⟩ := hz (m + 2)
      obtain ⟨b30, b31⟩ := hz (m + 3)
      obtain ⟨b40, b41⟩ := hz (m + 4)
      obtain ⟨b50, b51⟩ := hz (m + 5)
      rw [e2] at c2 b20 b21
      rw [e3] at c3 b30 b31
      rw [e4] at c4 b40 b41
      rw [e5] at c5 b50 b51
      have CG := sGet2_any (some ⟨b, off, none⟩) n c bs m (w.alloc (.cells #[.int .i64 0, .int .i64 0, .int .i64 0, .int .i64 0, .int .i64 0] 35)) (HR.out.below B0.out) hz hn HX.out
      rw [e0] at CG
      replace CG := Lib.hid CG
      replace hy := Lib.hid hy
      clear e0 e2 e3 e4 e5 hc hz
      have CB := sBoxOk_any y.x0 y.y0 y.x1 y.y1
      go_enter Try.func17, Try.ntmps17
      go_wp2_with fail
      refine CG.out.mono ?_
      rintro e w2 ⟨rfl, hb⟩
      have J2 := Lib.hid (below_keep hb (by simp) _ _ J.out)
      have s2 := hb.size
      simp at s2
      have q2 := (bcell (B0.out.trans (hb.mono B0.out.size))).1 b (off + (m + 2)) hbl
      have q3 := (bcell (B0.out.trans (hb.mono B0.out.size))).1 b (off + (m + 3)) hbl
      have q4 := (bcell (B0.out.trans (hb.mono B0.out.size))).1 b (off + (m + 4)) hbl
      have q5 := (bcell (B0.out.trans (hb.mono B0.out.size))).1 b (off + (m + 5)) hbl
      rw [c2] at q2
      rw [c3] at q3
      rw [c4] at q4
      rw [c5] at q5
      replace hb := Lib.hid (B0.out.trans (hb.mono B0.out.size))
      clear c2 c3 c4 c5 HR CG
      have hbl2 : b < w2.heap.size := by omega
      have hbl3 : b ≠ w2.heap.size := by omega
      have KE := Lib.hid (blk_new_drew w2 #[.int .i64 y.id, .int .i64 y.x0, .int .i64 y.y0, .int .i64 y.x1, .int .i64 y.y1] 35)
      have J3 : Hid ((∀ o, (w2.alloc (.cells #[.int .i64 y.id, .int .i64 y.x0, .int .i64 y.y0, .int .i64 y.x1, .int .i64 y.y1] 35)).drew.cell? ⟨w.heap.size, o, none⟩ = (#[.int .i64 0, .int .i64 0, .int .i64 0, .int .i64 0, .int .i64 0] : Array Value)[o]?) ∧ (∀ o, (w2.alloc (.cells #[.int .i64 y.id, .int .i64 y.x0, .int .i64 y.y0, .int .i64 y.x1, .int .i64 y.y1] 35)).drew.frozen? ⟨w.heap.size, o, none⟩ = false)) := blk_alloc (.cells #[.int .i64 y.id, .int .i64 y.x0, .int .i64 y.y0, .int .i64 y.x1, .int .i64 y.y1] 35) (by omega) _ _ J2.out
      have hs3 : w2.heap.size < (w2.alloc (.cells #[.int .i64 y.id, .int .i64 y.x0, .int .i64 y.y0, .int .i64 y.x1, .int .i64 y.y1] 35)).drew.heap.size := by show w2.heap.size < (w2.alloc (.cells #[.int .i64 y.id, .int .i64 y.x0, .int .i64 y.y0, .int .i64 y.x1, .int .i64 y.y1] 35)).heap.size; simp
      have hs4 : w.heap.size < (w2.alloc (.cells #[.int .i64 y.id, .int .i64 y.x0, .int .i64 y.y0, .int .i64 y.x1, .int .i64 y.y1] 35)).drew.heap.size := by omega
      replace hb := Lib.hid (((hb.out.alloc hb.out.size (.cells #[.int .i64 y.id, .int .i64 y.x0, .int .i64 y.y0, .int .i64 y.x1, .int .i64 y.y1] 35))).drew)
      cases ho : okB y.x0 y.y0 y.x1 y.y1 with
      | true =>
        have hr : Hid (hasE bs m = true) := by
          show hasE bs m = true
          unfold hasE
          rw [hle.out, Int.toNat_natCast, hy.out, ho]
          rfl
        have hg : Hid (getE bs m = y) := Lib.hid ((getE_yes hr.out).trans (by rw [Int.toNat_natCast]; exact hy.out))
        rw [ho] at CB
        replace CB := Lib.hid CB
        clear ho
        go_wp2_with fail
        go_big_region
        all_goals
          go_wp2_with fail
          refine (CB.out _).mono ?_
          rintro e w4 ⟨rfl, hj⟩
          obtain ⟨k0, -⟩ := below_keep hj hs3 _ _ KE.out
          obtain ⟨j0, f0⟩ := below_keep hj hs4 _ _ J3.out
          have hb3 := Lib.hid (hb.out.trans (hj.mono hb.out.size))
          clear hj
          go_wp2
          refine bodyPost_ret (v := .tuple #[.agg #[.int .i64 y.id, .int .i64 y.x0, .int .i64 y.y0, .int .i64 y.x1, .int .i64 y.y1], .bool true]) (by simp [results, Try.results17, go_sem, j0]) rfl ?_
          rw [hr.out, hg.out]
          exact ⟨rfl, (((((hb3.out).setCell (p := ⟨w.heap.size, 0, none⟩) (Nat.le_refl _) _).setCell (p := ⟨w.heap.size, 1, none⟩) (Nat.le_refl _) _).setCell (p := ⟨w.heap.size, 2, none⟩) (Nat.le_refl _) _).setCell (p := ⟨w.heap.size, 3, none⟩) (Nat.le_refl _) _).setCell (p := ⟨w.heap.size, 4, none⟩) (Nat.le_refl _) _⟩
      | false =>
        have hr : Hid (hasE bs m = false) := by
          show hasE bs m = false
          unfold hasE
          rw [Int.toNat_natCast, hy.out, ho, Bool.and_false]
        rw [ho] at CB
        replace CB := Lib.hid CB
        clear ho
        go_wp2_with fail
        go_big_region
        all_goals
          go_wp2_with fail
          refine (CB.out _).mono ?_
          rintro e w4 ⟨rfl, hj⟩
          obtain ⟨j0, f0⟩ := below_keep hj hs4 _ _ J3.out
          have hb3 := Lib.hid (hb.out.trans (hj.mono hb.out.size))
          clear hj
          go_wp2
          refine bodyPost_ret (v := .tuple #[.agg #[.int .i64 0, .int .i64 0, .int .i64 0, .int .i64 0, .int .i64 0], .bool false]) (by simp [results, Try.results17, go_sem, j0]) rfl ?_
          rw [hr.out, getE_no hr.out]
          exact ⟨rfl, (((((hb3.out).setCell (p := ⟨w.heap.size, 0, none⟩) (Nat.le_refl _) _).setCell (p := ⟨w.heap.size, 1, none⟩) (Nat.le_refl _) _).setCell (p := ⟨w.heap.size, 2, none⟩) (Nat.le_refl _) _).setCell (p := ⟨w.heap.size, 3, none⟩) (Nat.le_refl _) _).setCell (p := ⟨w.heap.size, 4, none⟩) (Nat.le_refl _) _⟩
    · have hr : Hid (hasE bs x = false) := by have := HR.out.1.1; exact Lib.hid (hasE_no (by omega))
      go_enter Try.func17, Try.ntmps17
      go_wp2
      refine bodyPost_ret (v := .tuple #[.agg #[.int .i64 0, .int .i64 0, .int .i64 0, .int .i64 0, .int .i64 0], .bool false]) (by simp [results, Try.results17, go_sem]) rfl ?_
      rw [hr.out, getE_no hr.out]
      exact ⟨rfl, B0.out⟩
  · have hr : Hid (hasE bs x = false) := Lib.hid (hasE_no (by omega))
    have hb : decide (x < 0) = true := decide_eq_true (by omega)
    go_enter Try.func17, Try.ntmps17
    go_wp2
    refine bodyPost_ret (v := .tuple #[.agg #[.int .i64 0, .int .i64 0, .int .i64 0, .int .i64 0, .int .i64 0], .bool false]) (by simp [results, Try.results17, go_sem]) rfl ?_
    rw [hr.out, getE_no hr.out]
    exact ⟨rfl, B0.out⟩
end Go.Proofs.Ytfgmjegemlkkkaa

/- The model's LeafOf: a leaf of the items, in order. -/
namespace Go.Proofs.Ytfgmjegemlkkkaa
open Go.RowKit
attribute [local go_sem ↓] Go.wp_at_zero Go.wp_at_succ

theorem cell_of_heap {w w' : World} {q : Nat} (h : w'.heap[q]? = w.heap[q]?) (o : Nat) : w'.cell? ⟨q, o, none⟩ = w.cell? ⟨q, o, none⟩ := by
  unfold World.cell?
  simp only [h]
theorem frozen_of_heap {w w' : World} {q : Nat} (h : w'.heap[q]? = w.heap[q]?) (o : Nat) : w'.frozen? ⟨q, o, none⟩ = w.frozen? ⟨q, o, none⟩ := by
  unfold World.frozen?
  simp only [h]
theorem cells_set1 {w : World} {q : Nat} {a b : Value} (h : ∀ o, w.cell? ⟨q, o, none⟩ = #[a, b][o]?) (v : Value) : ∀ o, (w.setCell ⟨q, 1, none⟩ v).cell? ⟨q, o, none⟩ = #[a, v][o]? := by
  intro o
  rcases (by omega : o = 0 ∨ o = 1 ∨ 2 ≤ o) with rfl | rfl | ho
  · rw [World.cell?_setCell_other _ _ _ _ (by simp), h 0]; rfl
  · exact World.cell?_setCell_same w ⟨q, 1, none⟩ v (u := b) (h 1)
  · rw [World.cell?_setCell_other _ _ _ _ (fun e => by cases e; omega), h o]
    rw [Array.getElem?_eq_none (by simp; omega), Array.getElem?_eq_none (by simp; omega)]
theorem ownS_none (w : World) (e : TypeId) (base : Nat) : OwnS itLay e w base (.slice none 0 0) [] := ⟨rfl, .inl ⟨rfl, rfl⟩⟩
theorem ownS_more {w : World} {e : TypeId} {base : Nat} {v : Value} {xs : List It} {x : It} {k : Nat} (hx : xs[k]? = some x) (h : w.ownsRow base e 5 v ((xs.take k).length + 1) ((xs.take k).flatMap itLay.cells ++ itLay.cells x)) : OwnS itLay e w base v (xs.take (k + 1)) := by
  show w.ownsRow base e 5 v _ _
  rw [List.take_add_one, hx, List.length_append, List.flatMap_append]
  simpa using h

theorem app_cell {wr w2 : World} {O : Obj} {v : Value} {B q : Nat} {fo : Nat → Option Value} (hg : (wr.alloc O).drew.grownBy w2 v.ownBlock) (hrow : ∀ j, v.ownBlock = some j → B ≤ j) (h : ∀ o, wr.cell? ⟨q, o, none⟩ = fo o) (hs : q + 1 ≤ wr.heap.size) (hb : q < B := by omega) : ∀ o, w2.cell? ⟨q, o, none⟩ = fo o := by
  intro o
  have hq : q < wr.heap.size := by omega
  have hne : some q ≠ v.ownBlock := fun e => by have := hrow q e.symm; omega
  have hblk : w2.heap[q]? = wr.heap[q]? := (hg.block q (by simp; omega) hne).trans (Below.heap_alloc wr O q hq)
  rw [← h o]
  exact cell_of_heap hblk o
theorem app_frozen {wr w2 : World} {O : Obj} {v : Value} {B q : Nat} {m : Nat → Bool} (hg : (wr.alloc O).drew.grownBy w2 v.ownBlock) (hrow : ∀ j, v.ownBlock = some j → B ≤ j) (h : ∀ o, wr.frozen? ⟨q, o, none⟩ = m o) (hs : q + 1 ≤ wr.heap.size) (hb : q < B := by omega) : ∀ o, w2.frozen? ⟨q, o, none⟩ = m o := by
  intro o
  have hq : q < wr.heap.size := by omega
  have hne : some q ≠ v.ownBlock := fun e => by have := hrow q e.symm; omega
  have hblk : w2.heap[q]? = wr.heap[q]? := (hg.block q (by simp; omega) hne).trans (Below.heap_alloc wr O q hq)
  rw [← h o]
  exact frozen_of_heap hblk o

set_option maxHeartbeats 3200000 in
set_option maxRecDepth 100000 in
theorem sLeafOf_any (a : Option Addr) (n cap : Nat) (xs : List It) (w : World) (h : RdS itLay w a n cap xs) (hn : n ≤ 1099511627776) :
    Calls Try.prog 71 #[.slice a n cap] w (NewNode true xs w) := by
  obtain ⟨i0, hi, hz0, hz1, hz2⟩ := info_parts Try.infoEntry
  replace hi := Lib.hid hi
  replace hz0 := Lib.hid hz0
  replace hz1 := Lib.hid hz1
  replace hz2 := Lib.hid hz2
  have hm := h.1.2.2.1
  have hnc := h.1.2.1
  unfold maxLen at hm
  have HR := Lib.hid h
  have HL := Lib.hid h.1.1
  clear h
  have K := Lib.hid (blk_alloc (.cells #[.bool true, .slice none 0 0] 26) (by simp) _ _ (blk_new w #[.bool false, .slice none 0 0] 26))
  have J := Lib.hid (blk_new1 w (.cells #[.bool false, .slice none 0 0] 26) #[.bool true, .slice none 0 0] 26)
  have B0 : Below w.heap.size w ((w.alloc (.cells #[.bool false, .slice none 0 0] 26)).alloc (.cells #[.bool true, .slice none 0 0] 26)) := ((Below.refl _ _).alloc (Nat.le_refl _) _).alloc (by simp) _
  have hne : w.heap.size ≠ w.heap.size + 1 := by omega
  go_enter Try.func71, Try.ntmps71
  go_wp2
  go_loopw [4] (fun i wr => ∃ k v, k ≤ n ∧ i = .int .i64 (k : Int) ∧ (∀ o, wr.cell? ⟨w.heap.size, o, none⟩ = #[Value.bool false, .slice none 0 0][o]?) ∧ (∀ o, wr.frozen? ⟨w.heap.size, o, none⟩ = false) ∧ (∀ o, wr.cell? ⟨w.heap.size + 1, o, none⟩ = #[Value.bool true, v][o]?) ∧ (∀ o, wr.frozen? ⟨w.heap.size + 1, o, none⟩ = false) ∧ OwnS itLay 35 wr (w.heap.size + 1 + 1) v (xs.take k) ∧ Below w.heap.size w wr ∧ w.heap.size + 1 + 1 ≤ wr.heap.size) (fun i _ => n - (intOf i).toNat)
  case atStart => exact ⟨0, .slice none 0 0, Nat.zero_le _, rfl, K.out.1, K.out.2, J.out.1, J.out.2, ownS_none _ _ _, B0, by simp⟩
  case round =>
    obtain ⟨k, v, hk, rfl, k0, f0, j0, g0, ho, hB, hS⟩ := hrel
    obtain ⟨va, vc, rfl, hr⟩ := OwnS.rd ho
    have htl : (xs.take k).length = k := by rw [List.length_take, HL.out]; omega
    rw [htl] at ho j0 hr
    have ho' : wr.ownsRow (w.heap.size + 1 + 1) 35 5 (.slice va k vc) k ((xs.take k).flatMap itLay.cells) := by
      have := ho
      unfold OwnS at this
      rw [htl] at this
      exact this
    by_cases hlt : k < n
    · obtain ⟨b, off, x, rfl, hbl, hx, d0, d1, d2, d3, d4⟩ := rdIt_at (HR.out.below hB) hlt
      have HX := Lib.hid hx
      have HO := Lib.hid ho'
      have c1 := j0 1
      simp at c1
      have hrow : ∀ j, (Value.slice va k vc).ownBlock = some j → w.heap.size + 1 + 1 ≤ j := fun j hj => (HO.out.lt j hj).1
      have hvb : b < w.heap.size := HR.out.lt (by omega) rfl
      have z0 : (0 : Int) ≤ k := by omega
      have z1 : (k : Int) < n := by omega
      have hq1 : w.heap.size + 1 < wr.heap.size := by omega
      have hq2 : w.heap.size + 1 ≠ wr.heap.size := by omega
      have hq3 : b < wr.heap.size := by omega
      have hq4 : b ≠ wr.heap.size := by omega
      have l1 := (World.cell?_alloc_lt wr (.cells #[.int .i64 x.id, .int .i64 x.x0, .int .i64 x.y0, .int .i64 x.x1, .int .i64 x.y1] 35) ⟨w.heap.size + 1, 1, none⟩ hq1).trans c1
      have htk := Lib.hid htl
      clear hr hx ho ho' htl
      go_wp2_with fail
      go_region_law ((refine step_append_src rfl (.tmp 13) (.tmp 25) 24 rfl (w.heap.size + 1 + 1) 35 i0 _ 5 40 Try.underlying24 hi.out hz0.out hz1.out hz2.out rfl (by decide) (.slice va k vc) k ((xs.take k).flatMap itLay.cells) (by simp [Act.eval]) (World.ownsRow.drew (World.ownsRow.alloc HO.out (.cells #[.int .i64 x.id, .int .i64 x.x0, .int .i64 x.y0, .int .i64 x.x1, .int .i64 x.y1] 35))) (some ⟨wr.heap.size, 0, none⟩) 1 1 (itLay.cells x) (by simp [Act.eval]) rfl (fun h => by cases h) (fun p hp => by cases hp; exact World.news_of_block (cs := #[.int .i64 x.id, .int .i64 x.x0, .int .i64 x.y0, .int .i64 x.x1, .int .i64 x.y1]) (t := 35) (fr := (0, 0)) (heap_alloc_new wr _)) (itLay.one x) (by unfold maxLen; omega) (by omega) (by simp; omega) ?_); intro v2 w2 o2 g2; have c2 := app_cell g2 hrow j0 hS; have e2 := app_frozen g2 hrow g0 hS; have c3 := app_cell g2 hrow k0 (by omega); have e3 := app_frozen g2 hrow f0 (by omega); obtain ⟨ra, rc, rfl⟩ := owns_shape o2)
      all_goals
        have O3 := Lib.hid (ownS_set (ownS_more HX.out (by rw [htk.out]; exact o2)) (g := w.heap.size + 1) (fun hj => by have := (o2.lt _ hj).1; omega) 1 (.slice ra (k + 1) rc))
        have B3 := Lib.hid ((((hB.alloc (by omega) (.cells #[.int .i64 x.id, .int .i64 x.x0, .int .i64 x.y0, .int .i64 x.x1, .int .i64 x.y1] 35)).drew).grown g2 (by simp; omega) (fun j hj => by have := hrow j hj; omega)).setCell (p := ⟨w.heap.size + 1, 1, none⟩) (show w.heap.size ≤ w.heap.size + 1 by omega) (.slice ra (k + 1) rc))
        have C3 := Lib.hid (cells_set1 c2 (.slice ra (k + 1) rc))
        have S3 := g2.size
        simp at S3
        clear o2
        go_wp2
        go_roundw
        case rel =>
          refine ⟨k + 1, .slice ra (k + 1) rc, by omega, by go_num, fun o => ?_, fun o => ?_, C3.out, fun o => ?_, O3.out, B3.out, by simp; omega⟩
          · exact (World.cell?_setCell_other _ _ _ _ (by simp)).trans (c3 o)
          · exact (World.frozen?_setCell _ _ _ _).trans (e3 o)
          · exact (World.frozen?_setCell _ _ _ _).trans (e2 o)
        case measure => simp [intOf]; omega
    · obtain rfl : k = n := by omega
      have hall : xs.take k = xs := List.take_of_length_le (by rw [HL.out]; exact Nat.le_refl _)
      have hlk : Hid (xs.length = k) := HL.out
      have HO := Lib.hid ho
      clear ho ho' hr htl
      go_wp2
      refine bodyPost_ret (v := .agg #[.bool true, .slice va k vc]) (by simp [results, Try.results71, go_sem, k0]) rfl ⟨_, rfl, ?_, ?_⟩
      · rw [hall] at HO
        have O := ownS_set (ownS_set HO.out (g := w.heap.size) (fun hj => by have := (HO.out.lt _ hj).1; omega) 0 (.bool true)) (g := w.heap.size) (fun hj => by have := (HO.out.lt _ hj).1; omega) 1 (.slice va k vc)
        exact OwnS.mono (L := itLay) O (by omega)
      · exact (hB.setCell (p := ⟨w.heap.size, 0, none⟩) (Nat.le_refl _) _).setCell (p := ⟨w.heap.size, 1, none⟩) (Nat.le_refl _) _
end Go.Proofs.Ytfgmjegemlkkkaa
