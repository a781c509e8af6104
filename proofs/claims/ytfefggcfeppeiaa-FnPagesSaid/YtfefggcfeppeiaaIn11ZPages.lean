/- The model's l11In: an item goes into a page of the book that a pointer leads to. -/
import Derived.Test.YtfefggcfeppeiaaInVZPages
import Derived.Test.YtfefggcfeppeiaaQPagesd
import Derived.Test.YtfefggcfeppeiaaRowEZPages
import Derived.Deep.CutBlock
import Derived.Deep.DeepCutAuto
namespace Go.Proofs.Ytfefggcfeppeiaa
open Go.RowKit
attribute [local go_sem ↓] Go.wp_at_zero Go.wp_at_succ

theorem rdS_off {α : Type} {L : Lay α} {w W : World} {a : Option Addr} {n cap : Nat} {xs : List α} (h : RdS L w a n cap xs) (hW : ∀ k, k < w.heap.size → W.heap[k]? = w.heap[k]?) : RdS L W a n cap xs :=
  (RdS.frame (lo := 0) (hi := w.heap.size) (fun b off e hn => by
    obtain ⟨b', off', e', hlt, -⟩ := h.at_ hn
    rw [e] at e'
    cases e'
    exact ⟨Nat.zero_le _, hlt⟩)) w W (fun k _ hk => hW k hk) h
theorem rdP_off {w : World} {a : Option Addr} {n cap : Nat} {ps : List PgV} (h : RdP w a n cap ps) : Off w (fun _ => False) (fun W => RdP W a n cap ps) :=
  fun _ hW => ⟨rdS_off h.1 (fun k hk => hW k hk (fun e => e)), fun p hp => rdS_off (h.2 p hp) (fun k hk => hW k hk (fun e => e))⟩
/-- What l11In answers. -/
def RetIn (q : Nat) (root : Int) (a : Option Addr) (n cap : Nat) (ps : List PgV) (r : List Pg × Bool × It × Bool) (w : World) (e : Ending) (w' : World) : Prop :=
  e = .returned (.tuple #[.bool r.2.1, .agg #[.int .i64 r.2.2.1.id, .int .i64 r.2.2.1.x0, .int .i64 r.2.2.1.y0, .int .i64 r.2.2.1.x1, .int .i64 r.2.2.1.y1], .bool r.2.2.2]) ∧ NewAt w q root a n cap ps r.1 w'
/-- Five stores into the result's block. -/
def five (W : World) (z : Nat) (u0 u1 u2 u3 u4 : Value) : World := ((((W.setCell ⟨z, 0, none⟩ u0).setCell ⟨z, 1, none⟩ u1).setCell ⟨z, 2, none⟩ u2).setCell ⟨z, 3, none⟩ u3).setCell ⟨z, 4, none⟩ u4
theorem five_chg (W : World) (z : Nat) (u0 u1 u2 u3 u4 : Value) : ChgIn z (z + 1) W (five W z u0 u1 u2 u3 u4) :=
  ChgIn.of_grown (row := some z) (grown_setCell (grown_setCell (grown_setCell (grown_setCell (grown_setCell (World.grownBy.refl _ _) _ _ _ rfl) _ _ _ rfl) _ _ _ rfl) _ _ _ rfl) _ _ _ rfl) (fun g hg => by cases hg; omega)
theorem five_loc {W : World} {z : Nat} {v0 v1 v2 v3 v4 : Value} (h : Loc W z #[v0, v1, v2, v3, v4]) (u0 u1 u2 u3 u4 : Value) : Loc (five W z u0 u1 u2 u3 u4) z #[u0, u1, u2, u3, u4] :=
  ((((h.set 0 u0 (by simp)).set 1 u1 (by simp)).set 2 u2 (by simp)).set 3 u3 (by simp)).set 4 u4 (by simp)
theorem five_end {w W : World} {q z : Nat} {root : Int} {L : List Pg} {a a0 : Option Addr} {n cap n0 cap0 : Nat} {ps ps0 : List PgV} (HB : BookAt W q root L a n cap ps) (hg : w.grownBy W (some q)) (hq : q < w.heap.size) (hz : w.heap.size ≤ z) (hzW : z < W.heap.size)
    (hc : ∀ o : Option Nat, (∀ B, o = some B → B ≤ w.heap.size) → ∀ Z : Nat → Prop, (∀ k, Z k → k < w.heap.size) → Off w Z (fun W => Bk o W a0 n0 cap0 ps0) → Off W (fun k => Z k ∨ k = z) (fun W => Bk o W a n cap ps)) (hw' : Off w (fun _ => False) (fun W => RdP W a0 n0 cap0 ps0)) (u0 u1 u2 u3 u4 : Value) :
    NewAt w q root a0 n0 cap0 ps0 L (five W z u0 u1 u2 u3 u4) := by
  have cF := five_chg W z u0 u1 u2 u3 u4
  have hne : ¬ (z ≤ q ∧ q < z + 1) := by omega
  have hd : ∀ o : Option Nat, (∀ B, o = some B → B ≤ w.heap.size) → ∀ Z : Nat → Prop, (∀ k, Z k → k < w.heap.size) → Off w Z (fun W => Bk o W a0 n0 cap0 ps0) → Off (five W z u0 u1 u2 u3 u4) Z (fun W => Bk o W a n cap ps) := fun o hB Z hZ ho =>
    (hc o hB Z hZ ho).keep cF.size (fun k _ e => Or.inl e) (fun k hk e => cF.block k hk (fun e2 => e (Or.inr (by omega))))
  refine ⟨a, n, cap, ps, ⟨HB.loc.of cF.size (cF.block q HB.loc.1 hne), HB.tag.of (cF.block q HB.loc.1 hne), (hd none (fun _ e => by cases e) (fun _ => False) (fun _ e => e.elim) hw').self, HB.eq⟩, ?_, hd⟩
  exact ⟨cF.os.trans hg.os, cF.tape.trans hg.tape, cF.output.trans hg.output, Nat.le_trans hg.size cF.size, fun k hk hn => (cF.block k (by have := hg.size; omega) (by omega)).trans (hg.block k hk hn)⟩

theorem newAt_below {w W W' : World} {q : Nat} {root : Int} {L : List Pg} {a0 : Option Addr} {n0 cap0 : Nat} {ps0 : List PgV} (h : NewAt w q root a0 n0 cap0 ps0 L W) (b : Below W.heap.size W W') : NewAt w q root a0 n0 cap0 ps0 L W' := by
  obtain ⟨a, n, cap, ps, HB, hg, hc⟩ := h
  exact ⟨a, n, cap, ps, HB.keep b, grown_trans hg (Below.toGrown b (some q)), fun o hB Z hZ ho => (hc o hB Z hZ ho).keep b.size (fun _ _ e => e) (fun k hk _ => b.block k hk)⟩
theorem ownS_snoc11 {w : World} {e : TypeId} {base : Nat} {v : Value} {ys : List It} {y : It} (h : w.ownsRow base e 5 v (ys.length + 1) (ys.flatMap itLay.cells ++ itLay.cells y)) : OwnS itLay e w base v (ys ++ [y]) := by
  show w.ownsRow base e 5 v _ _
  rw [List.length_append, List.flatMap_append]
  simpa using h
/-- Ahead of the Put: the book behind the pointer, the page's node in the local's block qn. -/
def Mid11 (w : World) (q qn : Nat) (root : Int) (l : List Pg) (N B : Nat) (x : It) (f : Nat) (m : Int) (V : World) : Prop :=
  ∃ (lf : Bool) (ys : List It) (l' : List Pg) (a : Option Addr) (n cap : Nat) (ps : List PgV) (ay : Option Addr) (cy : Nat), BookAt V q root l' a n cap ps ∧ Fits (N + f) (B + 4 * f) l' ∧ l.length ≤ l'.length ∧ inV l x (f + 1) m = fin11 l' m lf ys ∧ ys.length ≤ B + 1 ∧
    Loc V qn #[.bool lf, .slice ay ys.length cy] ∧ RdS itLay V ay ys.length cy ys ∧ Loc V (w.heap.size + 1) #[.int .i64 0, .int .i64 0, .int .i64 0, .int .i64 0, .int .i64 0] ∧ w.grownBy V (some q)

set_option maxRecDepth 100000 in
set_option maxHeartbeats 3200000 in
theorem l11In_any (x : It) (q : Nat) (root : Int) (l : List Pg) (N B : Nat) (hF : Fits N B l) : ∀ (f : Nat) (i : Int) (a : Option Addr) (n cap : Nat) (ps : List PgV) (w : World), BookAt w q root l a n cap ps → f ≤ 12 → Down l f i → N + f ≤ 1000 → B + 4 * f ≤ 1048000 →
    Calls Try.prog 128 #[.pointer (some ⟨q, 0, none⟩), .int .i64 i, .agg #[.int .i64 x.id, .int .i64 x.x0, .int .i64 x.y0, .int .i64 x.x1, .int .i64 x.y1], .int .i64 (13 - (f : Int))] w (RetIn q root a n cap ps (inV l x f i) w) := by
  obtain ⟨i0, hi, hz0, hz1, hz2⟩ := info_parts Try.infoEntry
  replace hi := Lib.hid hi
  replace hz0 := Lib.hid hz0
  replace hz1 := Lib.hid hz1
  replace hz2 := Lib.hid hz2
  intro f
  induction f with
  | zero =>
    intro i a n cap ps w h hf hd hN hB
    obtain ⟨h0, h1⟩ := hd.in_
    obtain ⟨m, rfl⟩ := Int.eq_ofNat_of_zero_le h0
    have hll : l.length = n := by rw [← h.eq, List.length_map]; exact h.rd.1.1.1
    have hmn : m < n := by omega
    have z1 : (m : Int) < n := by omega
    have hnc := h.rd.1.1.2.1
    have hm := h.rd.1.1.2.2.1
    unfold maxLen at hm
    obtain ⟨W0, hW0⟩ : ∃ W0, W0 = (w.alloc (.cells #[.int .i64 x.id, .int .i64 x.x0, .int .i64 x.y0, .int .i64 x.x1, .int .i64 x.y1] 98)).alloc (.cells #[.int .i64 0, .int .i64 0, .int .i64 0, .int .i64 0, .int .i64 0] 92) := ⟨_, rfl⟩
    have B0 : Below w.heap.size w W0 := by subst hW0; exact ((Below.refl _ _).alloc (Nat.le_refl _) _).alloc (by simp) _
    have s0 : W0.heap.size = w.heap.size + 1 + 1 := by subst hW0; simp
    have X0 : Loc W0 w.heap.size #[.int .i64 x.id, .int .i64 x.x0, .int .i64 x.y0, .int .i64 x.x1, .int .i64 x.y1] := by subst hW0; exact (Loc.new w _ _).alloc _
    have Z0 : Loc W0 (w.heap.size + 1) #[.int .i64 0, .int .i64 0, .int .i64 0, .int .i64 0, .int .i64 0] := by
      subst hW0
      have := Loc.new (w.alloc (.cells #[.int .i64 x.id, .int .i64 x.x0, .int .i64 x.y0, .int .i64 x.x1, .int .i64 x.y1] 98)) #[.int .i64 0, .int .i64 0, .int .i64 0, .int .i64 0, .int .i64 0] 92
      rw [show (w.alloc (.cells #[.int .i64 x.id, .int .i64 x.x0, .int .i64 x.y0, .int .i64 x.x1, .int .i64 x.y1] 98)).heap.size = w.heap.size + 1 by simp] at this
      exact this
    have HB := Lib.hid h
    have hqw := h.loc.1
    have HB0 := Lib.hid (h.keep B0)
    have HO0 := Lib.hid (rdP_off h.rd)
    obtain ⟨b, off, p, rfl, hbl, hp, hrd', d0, d1, d2⟩ := rdP_at h.rd hmn
    have hrd := hrd'.below B0
    have hpa : pageAt l m = p.pg := by rw [← h.eq]; exact pageAt_yes hp
    have hlf : Hid ((pageAt l m).leaf = p.leaf) := Lib.hid (by rw [hpa]; rfl)
    have hxs : Hid ((pageAt l m).xs = p.xs) := Lib.hid (by rw [hpa]; rfl)
    have hpx : p.xs.length = p.n := hrd.1.1
    have hpn : p.n ≤ B := by rw [← hpx, ← hxs.out]; exact hF.at_ m
    have CL := Lib.hid (l5Copy_any p.leaf p.a p.n p.cap p.xs W0 hrd (by omega))
    replace hpx := Lib.hid hpx
    have k0 := h.loc.2.1 0
    have k1 := h.loc.2.1 1
    simp at k0 k1
    clear h hrd hrd' hpa
    go_enter Try.func128, Try.ntmps128
    go_wp2_with fail
    rw [← hW0]
    clear hW0 k0 k1 d0 d1 d2
    refine CL.out.mono ?_
    rintro e w1 ⟨v1, rfl, o1, b1⟩
    obtain ⟨a1, c1, rfl, -⟩ := o1.rd
    have s1 := b1.size
    have N1 := Lib.hid (Loc.new w1 #[.bool p.leaf, .slice a1 p.xs.length c1] 32)
    obtain ⟨W2, hW2⟩ : ∃ W2, W2 = w1.alloc (.cells #[.bool p.leaf, .slice a1 p.xs.length c1] 32) := ⟨_, rfl⟩
    have b2 : Below w1.heap.size w1 W2 := by subst hW2; exact new_below w1 _
    rw [← hW2] at N1
    go_upto_block 0 with (fail)
    rw [← hW2]
    clear hW2
    have B2 : Below w.heap.size w W2 := (B0.trans (b1.mono B0.size)).trans (b2.mono (by omega))
    have Z2 := (Z0.below b1).below b2
    have HB2 := HB.out.keep B2
    have hoff2 : ∀ o : Option Nat, (∀ B, o = some B → B ≤ w.heap.size) → ∀ Z : Nat → Prop, (∀ k, Z k → k < w.heap.size) → Off w Z (fun W => Bk o W (some ⟨b, off, none⟩) n cap ps) → Off W2 (fun k => Z k ∨ k = w.heap.size + 1) (fun W => Bk o W (some ⟨b, off, none⟩) n cap ps) := fun o hB Z hZ ho =>
      ho.keep B2.size (fun k hk e => by
        rcases e with e | e
        · exact e
        · omega) (fun k hk _ => B2.block k hk)
    obtain ⟨hz2, zz, zf⟩ := id Z2
    clear CL o1
    go_wp2_with fail
    have ZF := (five_loc Z2 (.int .i64 0) (.int .i64 0) (.int .i64 0) (.int .i64 0) (.int .i64 0)).2.1
    have hEnd := five_end (z := w.heap.size + 1) HB2 (Below.toGrown B2 (some q)) hqw (by omega) hz2 hoff2 HO0.out (.int .i64 0) (.int .i64 0) (.int .i64 0) (.int .i64 0) (.int .i64 0)
    have e5 : five W2 (w.heap.size + 1) (.int .i64 0) (.int .i64 0) (.int .i64 0) (.int .i64 0) (.int .i64 0) = ((((W2.setCell ⟨w.heap.size + 1, 0, none⟩ (.int .i64 0)).setCell ⟨w.heap.size + 1, 1, none⟩ (.int .i64 0)).setCell ⟨w.heap.size + 1, 2, none⟩ (.int .i64 0)).setCell ⟨w.heap.size + 1, 3, none⟩ (.int .i64 0)).setCell ⟨w.heap.size + 1, 4, none⟩ (.int .i64 0) := rfl
    rw [← e5]
    clear e5
    generalize five W2 (w.heap.size + 1) (.int .i64 0) (.int .i64 0) (.int .i64 0) (.int .i64 0) (.int .i64 0) = WF at ZF hEnd ⊢
    refine bodyPost_ret (v := .tuple #[.bool false, .agg #[.int .i64 0, .int .i64 0, .int .i64 0, .int .i64 0, .int .i64 0], .bool false]) (by simp [results, Try.results128, go_sem, ZF]) rfl ?_
    exact ⟨rfl, hEnd⟩
  | succ f ih =>
    intro i a n cap ps w h hf hd hN hB
    obtain ⟨h0, h1⟩ := hd.in_
    obtain ⟨m, rfl⟩ := Int.eq_ofNat_of_zero_le h0
    have hll : l.length = n := by rw [← h.eq, List.length_map]; exact h.rd.1.1.1
    have hmn : m < n := by omega
    have z1 : (m : Int) < n := by omega
    have hnc := h.rd.1.1.2.1
    have hm := h.rd.1.1.2.2.1
    unfold maxLen at hm
    obtain ⟨W0, hW0⟩ : ∃ W0, W0 = (w.alloc (.cells #[.int .i64 x.id, .int .i64 x.x0, .int .i64 x.y0, .int .i64 x.x1, .int .i64 x.y1] 98)).alloc (.cells #[.int .i64 0, .int .i64 0, .int .i64 0, .int .i64 0, .int .i64 0] 92) := ⟨_, rfl⟩
    have B0 : Below w.heap.size w W0 := by subst hW0; exact ((Below.refl _ _).alloc (Nat.le_refl _) _).alloc (by simp) _
    have s0 : W0.heap.size = w.heap.size + 1 + 1 := by subst hW0; simp
    have X0 : Loc W0 w.heap.size #[.int .i64 x.id, .int .i64 x.x0, .int .i64 x.y0, .int .i64 x.x1, .int .i64 x.y1] := by subst hW0; exact (Loc.new w _ _).alloc _
    have Z0 : Loc W0 (w.heap.size + 1) #[.int .i64 0, .int .i64 0, .int .i64 0, .int .i64 0, .int .i64 0] := by
      subst hW0
      have := Loc.new (w.alloc (.cells #[.int .i64 x.id, .int .i64 x.x0, .int .i64 x.y0, .int .i64 x.x1, .int .i64 x.y1] 98)) #[.int .i64 0, .int .i64 0, .int .i64 0, .int .i64 0, .int .i64 0] 92
      rw [show (w.alloc (.cells #[.int .i64 x.id, .int .i64 x.x0, .int .i64 x.y0, .int .i64 x.x1, .int .i64 x.y1] 98)).heap.size = w.heap.size + 1 by simp] at this
      exact this
    have HB := Lib.hid h
    have hqw := h.loc.1
    have HB0 := Lib.hid (h.keep B0)
    have HO0 := Lib.hid (rdP_off h.rd)
    obtain ⟨b, off, p, rfl, hbl, hp, hrd', d0, d1, d2⟩ := rdP_at h.rd hmn
    have hrd := hrd'.below B0
    have hpa : pageAt l m = p.pg := by rw [← h.eq]; exact pageAt_yes hp
    have hlf : Hid ((pageAt l m).leaf = p.leaf) := Lib.hid (by rw [hpa]; rfl)
    have hxs : Hid ((pageAt l m).xs = p.xs) := Lib.hid (by rw [hpa]; rfl)
    have hpx : p.xs.length = p.n := hrd.1.1
    have hpn : p.n ≤ B := by rw [← hpx, ← hxs.out]; exact hF.at_ m
    have CL := Lib.hid (l5Copy_any p.leaf p.a p.n p.cap p.xs W0 hrd (by omega))
    replace hpx := Lib.hid hpx
    have k0 := h.loc.2.1 0
    have k1 := h.loc.2.1 1
    simp at k0 k1
    replace hd := Lib.hid hd
    replace ih := Lib.hid ih
    clear h hrd hrd' hpa
    go_enter Try.func128, Try.ntmps128
    go_wp2_with fail
    rw [← hW0]
    clear hW0 k0 k1 d0 d1 d2
    refine CL.out.mono ?_
    rintro e w1 ⟨v1, rfl, o1, b1⟩
    obtain ⟨a1, c1, rfl, -⟩ := o1.rd
    have s1 := b1.size
    have N1 := Lib.hid (Loc.new w1 #[.bool p.leaf, .slice a1 p.xs.length c1] 32)
    obtain ⟨W2, hW2⟩ : ∃ W2, W2 = w1.alloc (.cells #[.bool p.leaf, .slice a1 p.xs.length c1] 32) := ⟨_, rfl⟩
    have b2 : Below w1.heap.size w1 W2 := by subst hW2; exact new_below w1 _
    rw [← hW2] at N1
    have hdeep : ¬ ((12 : Int) < 13 - ((f + 1 : Nat) : Int)) := by omega
    go_upto_block 0 with (fail)
    rw [← hW2]
    clear hW2
    go_cut [] (fun V => Mid11 w q w1.heap.size root l N B x f m V)
    case first =>
      have hn1 := N1.out.1
      have B2 : Below w.heap.size w W2 := (B0.trans (b1.mono B0.size)).trans (b2.mono (by omega))
      have X2 := (X0.below b1).below b2
      have Z2 := Lib.hid ((Z0.below b1).below b2)
      have O2 : Hid (OwnS itLay 92 W2 W0.heap.size (.slice a1 p.xs.length c1) p.xs) := Lib.hid (o1.below b2)
      have hrow : ∀ j, (Value.slice a1 p.xs.length c1).ownBlock = some j → W0.heap.size ≤ j ∧ j < w1.heap.size := fun j hj => World.ownsRow.lt o1 j hj
      have hpxl : p.xs.length ≤ B := by rw [hpx.out]; exact hpn
      have S2 := b2.size
      obtain ⟨-, xx, -⟩ := id X2
      have xx0 := xx 0
      have xx1 := xx 1
      have xx2 := xx 2
      have xx3 := xx 3
      have xx4 := xx 4
      simp at xx0 xx1 xx2 xx3 xx4
      have hwn : w.heap.size ≠ w1.heap.size := by omega
      clear o1 b1 CL xx B0 X0 Z0
      cases hl : p.leaf with
      | true =>
        rw [hl] at N1 hlf
        obtain ⟨-, nn, nf⟩ := N1.out
        have nn0 := nn 0
        have nn1 := nn 1
        simp at nn0 nn1
        have l1 := (World.cell?_alloc_lt W2 (.cells #[.int .i64 x.id, .int .i64 x.x0, .int .i64 x.y0, .int .i64 x.x1, .int .i64 x.y1] 92) ⟨w1.heap.size, 1, none⟩ hn1).trans nn1
        go_wp2_with (at_builtin; refine wpList_append_new rfl (.tmp 82) (.tmp 88) 30 rfl W0.heap.size 92 i0 _ 5 40 Try.underlying30 hi.out hz0.out hz1.out hz2.out rfl (by decide) (.slice a1 p.xs.length c1) p.xs.length (p.xs.flatMap itLay.cells) rfl (World.ownsRow.alloc O2.out (.cells #[.int .i64 x.id, .int .i64 x.x0, .int .i64 x.y0, .int .i64 x.x1, .int .i64 x.y1] 92)) (some ⟨W2.heap.size, 0, none⟩) 1 1 (itLay.cells x) rfl rfl (fun h => by cases h) (fun p hp => by cases hp; exact World.news_of_block (cs := #[.int .i64 x.id, .int .i64 x.x0, .int .i64 x.y0, .int .i64 x.x1, .int .i64 x.y1]) (t := 92) (fr := (0, 0)) (heap_alloc_new W2 _)) (itLay.one x) (by unfold maxLen; omega) (by omega) (by simp; omega) ?_)
        intro v2 w2 o3 g2 f2
        have N3 := Lib.hid ((N1.out.alloc (.cells #[.int .i64 x.id, .int .i64 x.x0, .int .i64 x.y0, .int .i64 x.x1, .int .i64 x.y1] 92)).grown g2 (fun k hk => by have := hrow k hk; omega))
        obtain ⟨ra, rc, rfl⟩ := owns_shape o3
        obtain ⟨hm3, mm, mf⟩ := id N3.out
        go_wp2_with fail
        have B9 := ((B2.alloc (by omega) (.cells #[.int .i64 x.id, .int .i64 x.x0, .int .i64 x.y0, .int .i64 x.x1, .int .i64 x.y1] 92)).grown g2 (by simp; omega) (fun j hj => by have := hrow j hj; omega)).setCell (p := ⟨w1.heap.size, 1, none⟩) (show w.heap.size ≤ w1.heap.size by omega) (.slice ra (p.xs.length + 1) rc)
        have N9 := N3.out.set 1 (.slice ra (p.xs.length + 1) rc) (by simp)
        have O9 := ownS_set (ownS_snoc11 o3) (g := w1.heap.size) (fun hj => by
          rcases f2 _ hj with h3 | h3
          · have := hrow _ h3; omega
          · simp at h3; omega) 1 (.slice ra (p.xs.length + 1) rc)
        have Z9 := ((Z2.out.alloc (.cells #[.int .i64 x.id, .int .i64 x.x0, .int .i64 x.y0, .int .i64 x.x1, .int .i64 x.y1] 92)).grown g2 (fun k hk => by have := hrow k hk; omega)).other (p := w1.heap.size) 1 (.slice ra (p.xs.length + 1) rc) (by omega)
        have hlx : (p.xs ++ [x]).length = p.xs.length + 1 := by rw [List.length_append]; rfl
        go_meet
        refine ⟨true, p.xs ++ [x], l, _, n, cap, ps, ra, rc, HB.out.keep B9, hF.mono (by omega) (by omega), Nat.le_refl _, (inV_leaf hlf.out).trans (by rw [hxs.out]), by rw [hlx]; omega, by rw [hlx]; exact N9, ?_, Z9, Below.toGrown B9 _⟩
        rw [hlx]
        exact rdS_ownsP O9
      | false =>
        rw [hl] at N1 hlf
        obtain ⟨k, e, hck, hk, hek, hkid, hdk⟩ := hd.out.kid hlf.out x
        rw [hxs.out] at hck hk hek hkid
        obtain ⟨-, nn, nf⟩ := N1.out
        have nn0 := nn 0
        have nn1 := nn 1
        simp at nn0 nn1
        have CC := sChoose_any a1 p.xs.length c1 p.xs (boxOf x) W2 (rdS_ownsP O2.out)
        rw [hck] at CC
        replace CC := Lib.hid CC
        replace hck := Lib.hid hck
        replace hkid := Lib.hid hkid
        replace hdk := Lib.hid hdk
        have hek' := Lib.hid hek
        clear hek
        go_wp2_with fail
        refine CC.out.mono ?_
        rintro e' w3 ⟨rfl, b3⟩
        have s3 := b3.size
        have X3 := Lib.hid (X2.below b3)
        have B3 := Lib.hid (B2.trans (b3.mono B2.size))
        have Z3 := Lib.hid (Z2.out.below b3)
        have N3 := Lib.hid (N1.out.below b3)
        have O3 := Lib.hid (O2.out.below b3)
        obtain ⟨b', off', e1, he1, hb1, hx1, d0, d1, d2, d3, d4⟩ := rdIt_at (rdS_ownsP O3.out) hk
        obtain rfl : e1 = e := by rw [hek'.out] at hx1; exact (Option.some.inj hx1).symm
        subst he1
        have hof : Hid (off' = 0) := Lib.hid (by
          rcases (show w3.ownsRow W0.heap.size 92 5 (.slice (some ⟨b', off', none⟩) p.xs.length c1) _ _ from O3.out).2 with ⟨h5, -⟩ | ⟨g, cap, -, h5, -⟩
          · cases h5
          · cases h5; rfl)
        obtain ⟨-, nn, nf⟩ := N3.out
        have nn0 := nn 0
        have nn1 := nn 1
        simp at nn0 nn1
        obtain ⟨-, xx, -⟩ := X3.out
        have xx0 := xx 0
        have xx1 := xx 1
        have xx2 := xx 2
        have xx3 := xx 3
        have xx4 := xx 4
        simp at xx0 xx1 xx2 xx3 xx4
        have y0 : (0 : Int) ≤ k := by omega
        have y1 : (k : Int) < p.xs.length := by omega
        clear b3 CC hx1
        obtain ⟨r, hr⟩ : ∃ r, inV l x f e1.id = r := ⟨_, rfl⟩
        have CR := ih.out e1.id _ n cap ps w3 (HB.out.keep B3.out) (by omega) hdk.out (by omega) (by omega)
        rw [hr] at CR
        replace CR := Lib.hid CR
        replace hr := Lib.hid hr
        have hde : (13 : Int) - ((f : Int) + 1) + 1 = 13 - (f : Int) := by omega
        go_wp2_with fail
        clear hde
        refine CR.out.mono ?_
        rintro e' w4 ⟨rfl, a4, n4, c4, us, hb4, g4, hc4⟩
        have Z4 := Lib.hid (Z3.out.grown g4 (fun k hk => by cases hk; omega))
        have N4 := Lib.hid (N3.out.grown g4 (fun k hk => by cases hk; have := HB0.out.loc.1; omega))
        have O4 : Hid (OwnS itLay 92 w4 W0.heap.size (.slice (some ⟨b', off', none⟩) p.xs.length c1) p.xs) := Lib.hid (OwnS.kept O3.out g4 (.inr (fun h5 => by
          have := (hrow q h5).1
          have := HB0.out.loc.1
          omega)))
        have s4 := g4.size
        obtain ⟨W5, hW5⟩ : ∃ W5, W5 = w4.alloc (.cells #[.int .i64 r.2.2.1.id, .int .i64 r.2.2.1.x0, .int .i64 r.2.2.1.y0, .int .i64 r.2.2.1.x1, .int .i64 r.2.2.1.y1] 92) := ⟨_, rfl⟩
        have E5 : Loc W5 w4.heap.size #[.int .i64 r.2.2.1.id, .int .i64 r.2.2.1.x0, .int .i64 r.2.2.1.y0, .int .i64 r.2.2.1.x1, .int .i64 r.2.2.1.y1] := by rw [hW5]; exact Loc.new _ _ _
        have b5 : Below w4.heap.size w4 W5 := by rw [hW5]; exact new_below w4 _
        have Z5 := Z4.out.below b5
        have N5 := Lib.hid (N4.out.below b5)
        have O5 := Lib.hid (O4.out.below b5)
        have s5 := b5.size
        have HB5 := Lib.hid (hb4.keep b5)
        have g5 := grown_trans (grown_trans (Below.toGrown B3.out (some q)) g4) (Below.toGrown b5 (some q))
        have hoff5 : ∀ o : Option Nat, (∀ B, o = some B → B ≤ w.heap.size) → ∀ Z : Nat → Prop, (∀ k, Z k → k < w.heap.size) → Off w Z (fun W => Bk o W (some ⟨b, off, none⟩) n cap ps) → Off W5 (fun k => Z k ∨ k = w.heap.size + 1) (fun W => Bk o W a4 n4 c4 us) := fun o hB Z hZ ho => by
          have h3 : Off w3 (fun k => Z k ∨ k = w.heap.size + 1) (fun W => Bk o W (some ⟨b, off, none⟩) n cap ps) := ho.keep B3.out.size (fun k hk e => by
            rcases e with e | e
            · exact e
            · omega) (fun k hk _ => B3.out.block k hk)
          exact (hc4 o (fun B e => by have := hB B e; omega) _ (fun k hk => by
            rcases hk with hk | rfl
            · have := hZ k hk; omega
            · exact Z3.out.1) h3).keep b5.size (fun _ _ e => e) (fun k hk _ => b5.block k hk)
        clear nn0 nn1 xx0 xx1 xx2 xx3 xx4 d0 d1 d2 d3 d4 nf nn xx X3
        cases hok : r.2.2.2 with
        | false =>
          have hrr : Hid (inV l x (f + 1) m = (r.1, false, zeroIt, false)) := Lib.hid (inV_not hlf.out (by rw [hxs.out, hkid.out]; exact hr.out) hok)
          obtain ⟨hz5, zz, zf⟩ := id Z5
          go_upto_region 5 with (fail)
          rw [← hW5]
          clear hW5
          go_wp2_with fail
          have ZF := (five_loc Z5 (.int .i64 0) (.int .i64 0) (.int .i64 0) (.int .i64 0) (.int .i64 0)).2.1
          have hEnd := five_end (z := w.heap.size + 1) HB5.out g5 hqw (by omega) hz5 hoff5 HO0.out (.int .i64 0) (.int .i64 0) (.int .i64 0) (.int .i64 0) (.int .i64 0)
          have e5 : five W5 (w.heap.size + 1) (.int .i64 0) (.int .i64 0) (.int .i64 0) (.int .i64 0) (.int .i64 0) = ((((W5.setCell ⟨w.heap.size + 1, 0, none⟩ (.int .i64 0)).setCell ⟨w.heap.size + 1, 1, none⟩ (.int .i64 0)).setCell ⟨w.heap.size + 1, 2, none⟩ (.int .i64 0)).setCell ⟨w.heap.size + 1, 3, none⟩ (.int .i64 0)).setCell ⟨w.heap.size + 1, 4, none⟩ (.int .i64 0) := rfl
          rw [← e5]
          clear e5
          generalize five W5 (w.heap.size + 1) (.int .i64 0) (.int .i64 0) (.int .i64 0) (.int .i64 0) (.int .i64 0) = WF at ZF hEnd ⊢
          refine bodyPost_ret (v := .tuple #[.bool false, .agg #[.int .i64 0, .int .i64 0, .int .i64 0, .int .i64 0, .int .i64 0], .bool false]) (by simp [results, Try.results128, go_sem, ZF]) rfl ?_
          rw [hrr.out]
          exact ⟨rfl, hEnd⟩
        | true =>
          go_upto_region 5 with (fail)
          rw [← hW5]
          clear hW5
          obtain ⟨hk0, hk1⟩ := hdk.out.in_
          obtain ⟨kk, hkk⟩ := Int.eq_ofNat_of_zero_le hk0
          have hll4 : us.length = r.1.length := len_pgs hb4.eq
          have hn4 : us.length = n4 := hb4.rd.1.1.1
          have hge := inV_ge l x f e1.id
          rw [hr.out] at hge
          have hkn : kk < n4 := by omega
          obtain ⟨b6, off6, pk, ha4, hb6, hpk, hrk, t0, t1, t2⟩ := rdP_at HB5.out.rd hkn
          have hcap4 := HB5.out.rd.1.1.2.1
          have hm4 := HB5.out.rd.1.1.2.2.1
          unfold maxLen at hm4
          have hq5 := HB5.out.loc.1
          have q50 := HB5.out.loc.2.1 0
          have q51 := HB5.out.loc.2.1 1
          simp at q50 q51
          subst ha4
          have hbk := sBoundOf_any pk.leaf pk.a pk.n pk.cap pk.xs W5.drew (hrk.below (drew_below _)) (by
            have h5 := (hF.ins x f e1.id).2 pk.pg (by rw [hr.out, ← hb4.eq]; exact List.mem_map_of_mem (List.mem_of_getElem? hpk))
            have h6 : pk.xs.length = pk.n := hrk.1.1
            have h7 : pk.pg.xs.length = pk.xs.length := rfl
            omega)
          have CB := Lib.hid hbk
          have KS : Hid (∀ V, Below W5.heap.size W5 V → (fun V => V.cell? ⟨w1.heap.size, 1, none⟩ = some (.slice (some ⟨b', off', none⟩) p.xs.length c1)) V) := Lib.hid (fun V b => ((N5.out.below b).2.1 1).trans rfl)
          have z0 : (0 : Int) ≤ kk := by omega
          have z1 : (kk : Int) < n4 := by omega
          clear hk0 hk1 hge hbk
          replace hn4 := Lib.hid hn4
          replace hll4 := Lib.hid hll4
          go_wp2_with fail
          replace hkk := Lib.hid hkk
          refine wp_region_noPanic ?_
          refine wp_region_held_drew (S := fun V => V.cell? ⟨w1.heap.size, 1, none⟩ = some (.slice (some ⟨b', off', none⟩) p.xs.length c1)) (by kernel_rfl) (KS.out _ (drew_below _)) (fun hHeld => ?_)
          refine wpAnyH_take (i := 0) (v := ?w0) rfl (by kernel_rfl) (by kernel_rfl) (by kernel_rfl) (fun _ _ _ h => h) (Or.inl ⟨by rfl, ?hz0⟩) (by assumption) ?sest0
          case hz0 => intro w hSw; (try dsimp only at hSw); go_simp; (try with_reducible rfl)
          simp only [List.getElem_toArray, List.getElem_cons_zero, Act.put, List.setIfInBounds_toArray, List.set_cons_zero, List.set_cons_succ]
          refine wpAnyH_take (i := 1) (v := ?w1) rfl (by kernel_rfl) (by kernel_rfl) (by kernel_rfl) (fun _ _ _ h => h) (Or.inl ⟨by rfl, ?hz1⟩) (by assumption) ?sest1
          case hz1 => intro w hSw; (try dsimp only at hSw); go_simp; (try with_reducible rfl)
          simp only [List.getElem_toArray, List.getElem_cons_zero, List.getElem_cons_succ, Act.put, List.setIfInBounds_toArray, List.set_cons_zero, List.set_cons_succ]
          refine wpAnyH_take (i := 2) (v := ?w2) rfl (by kernel_rfl) (by kernel_rfl) (by kernel_rfl) (fun _ _ _ h => h) (Or.inl ⟨by rfl, ?hz2⟩) (by assumption) ?sest2
          case hz2 => intro w hSw; (try dsimp only at hSw); go_simp; (try with_reducible rfl)
          simp only [List.getElem_toArray, List.getElem_cons_zero, List.getElem_cons_succ, Act.put, List.setIfInBounds_toArray, List.set_cons_zero, List.set_cons_succ]
          refine wpAnyH_take (i := 3) (v := ?w3) rfl (by kernel_rfl) (by kernel_rfl) (by kernel_rfl) (fun _ _ _ h => h) (Or.inl ⟨by rfl, ?hz3⟩) (by assumption) ?sest3
          case hz3 => intro w hSw; (try dsimp only at hSw); go_simp; (try with_reducible rfl)
          simp only [List.getElem_toArray, List.getElem_cons_zero, List.getElem_cons_succ, Act.put, List.setIfInBounds_toArray, List.set_cons_zero, List.set_cons_succ]
          refine wpAnyH_take (i := 4) (v := ?w4) rfl (by kernel_rfl) (by kernel_rfl) (by kernel_rfl) (fun _ _ _ h => h) (Or.inl ⟨by rfl, ?hz4⟩) (by assumption) ?sest4
          case hz4 => intro w hSw; (try dsimp only at hSw); go_simp; (try with_reducible rfl)
          simp only [List.getElem_toArray, List.getElem_cons_zero, List.getElem_cons_succ, Act.put, List.setIfInBounds_toArray, List.set_cons_zero, List.set_cons_succ]
          refine wpAnyH_take (i := 5) (v := ?w5) rfl (by kernel_rfl) (by kernel_rfl) (by kernel_rfl) (fun _ _ _ h => h) (Or.inl ⟨by rfl, ?hz5⟩) (by assumption) ?sest5
          case hz5 => intro w hSw; (try dsimp only at hSw); go_simp; (try with_reducible rfl)
          simp only [List.getElem_toArray, List.getElem_cons_zero, List.getElem_cons_succ, Act.put, List.setIfInBounds_toArray, List.set_cons_zero, List.set_cons_succ]
          refine wpAnyH_take (i := 6) (v := ?w6) rfl (by kernel_rfl) (by kernel_rfl) (by kernel_rfl) (fun _ _ _ h => h) (Or.inl ⟨by rfl, ?hz6⟩) (by assumption) ?sest6
          case hz6 => intro w hSw; (try dsimp only at hSw); go_simp; (try with_reducible rfl)
          simp only [List.getElem_toArray, List.getElem_cons_zero, List.getElem_cons_succ, Act.put, List.setIfInBounds_toArray, List.set_cons_zero, List.set_cons_succ]
          refine wpAnyH_take (i := 8) (v := ?w8) rfl (by kernel_rfl) (by kernel_rfl) (by kernel_rfl) (fun _ _ _ h => h) (Or.inl ⟨by rfl, ?hz8⟩) (by assumption) ?sest8
          case hz8 => intro w hSw; (try dsimp only at hSw); go_simp; (try with_reducible rfl)
          simp only [List.getElem_toArray, List.getElem_cons_zero, List.getElem_cons_succ, Act.put, List.setIfInBounds_toArray, List.set_cons_zero, List.set_cons_succ]
          refine wpAnyH_ready (rs := [7]) (by kernel_rfl) (by simp) ?_
          refine AllReadyH.cons rfl (fun K hK => ?_) AllReadyH.nil
          go_simp
          refine hK.out _ _ (KS.out _ (drew_below _)) (fun hHeld => ?_)
          clear hK K
          refine wpAnyH_ready (rs := [9]) (by kernel_rfl) (by simp) ?_
          refine AllReadyH.cons rfl (fun K hK => ?_) AllReadyH.nil
          go_simp
          refine hK.out _ _ (KS.out _ (drew_below _)) (fun hHeld => ?_)
          clear hK K
          refine wpAnyH_ready (rs := [10]) (by kernel_rfl) (by simp) ?_
          refine AllReadyH.cons rfl (fun K hK => ?_) AllReadyH.nil
          go_simp
          refine hK.out _ _ (KS.out _ (drew_below _)) (fun hHeld => ?_)
          clear hK K
          refine wpAnyH_ready (rs := [11]) (by kernel_rfl) (by simp) ?_
          refine AllReadyH.cons rfl (fun K hK => ?_) AllReadyH.nil
          go_simp
          refine hK.out _ _ (KS.out _ (drew_below _)) (fun hHeld => ?_)
          clear hK K
          refine wpAnyH_ready (rs := [12]) (by kernel_rfl) (by simp) ?_
          refine AllReadyH.cons rfl (fun K hK => ?_) AllReadyH.nil
          go_simp
          refine CB.out.mono ?_
          rintro e' w6 ⟨rfl, b6'⟩
          have B6 : Below W5.heap.size W5 w6 := (drew_below W5).trans b6'
          have O6 := Lib.hid (O5.out.below B6)
          clear b6'
          refine hK.out _ _ (KS.out _ B6) (fun hHeld => ?_)
          clear hK K
          refine wpAnyH_ready (rs := [13]) (by kernel_rfl) (by simp) ?_
          refine AllReadyH.cons rfl (fun K hK => ?_) AllReadyH.nil
          go_simp
          refine hK.out _ _ (KS.out _ B6) (fun hHeld => ?_)
          clear hK K
          refine wpAnyH_ready (rs := [14]) (by kernel_rfl) (by simp) ?_
          refine AllReadyH.cons rfl (fun K hK => ?_) AllReadyH.nil
          go_simp
          refine hK.out _ _ (KS.out _ B6) (fun hHeld => ?_)
          clear hK K
          obtain ⟨b7, off7, e7, he7, -, -, v0, v1, v2, v3, v4⟩ := rdIt_at (rdS_ownsP O6.out) hk
          cases he7
          have fz : ∀ j, w6.frozen? ⟨b', j, none⟩ = false := by
            have h := O6.out
            rw [hof.out] at h
            exact fun j => RowE.froz ⟨h, rfl⟩ j
          refine wpAnyH_ready (rs := [15]) (by kernel_rfl) (by simp) ?_
          refine AllReadyH.cons rfl (fun K hK => ?_) AllReadyH.nil
          go_simp
          have hbq : b' ≠ w1.heap.size := by have := (hrow b' rfl).2; omega
          have N7 := Lib.hid ((((((N5.out.below B6).other (off' + k * 5) (.int .i64 (kk : Int)) hbq).other (off' + k * 5 + 1) (.int .i64 (joinAll (pk.xs.map boxOf)).x0) hbq).other (off' + k * 5 + 2) (.int .i64 (joinAll (pk.xs.map boxOf)).y0) hbq).other (off' + k * 5 + 3) (.int .i64 (joinAll (pk.xs.map boxOf)).x1) hbq).other (off' + k * 5 + 4) (.int .i64 (joinAll (pk.xs.map boxOf)).y1) hbq)
          refine hK.out _ _ ((N7.out.2.1 1).trans rfl) (fun hHeld => ?_)
          clear hK K
          refine wpAnyH_done (by kernel_rfl) ?_ _
          refine NoPanic.normal ?_
          clear hHeld
          refine (by assumption : ∀ (a : Act) (w : World), _ → _) _ _ ?_
          have s6 := B6.size
          have hbw1 : W0.heap.size ≤ b' ∧ b' < w1.heap.size := hrow b' rfl
          have hbqq : b' ≠ q := by omega
          obtain ⟨bx, hbx⟩ : ∃ bx, joinAll (pk.xs.map boxOf) = bx := ⟨_, rfl⟩
          rw [hbx] at N7 ⊢
          obtain ⟨w7, hw7⟩ : ∃ w7, w7 = ((((w6.setCell ⟨b', off' + k * 5, none⟩ (.int .i64 (kk : Int))).setCell ⟨b', off' + k * 5 + 1, none⟩ (.int .i64 bx.x0)).setCell ⟨b', off' + k * 5 + 2, none⟩ (.int .i64 bx.y0)).setCell ⟨b', off' + k * 5 + 3, none⟩ (.int .i64 bx.x1)).setCell ⟨b', off' + k * 5 + 4, none⟩ (.int .i64 bx.y1) := ⟨_, rfl⟩
          rw [← hw7] at N7
          rw [← hw7]
          have c67 : ChgIn b' (b' + 1) w6 w7 := by
            rw [hw7]
            exact ChgIn.of_grown (row := some b') (grown_setCell (grown_setCell (grown_setCell (grown_setCell (grown_setCell (World.grownBy.refl _ _) _ _ _ rfl) _ _ _ rfl) _ _ _ rfl) _ _ _ rfl) _ _ _ rfl) (fun g hg => by cases hg; omega)
          have s7 := c67.size
          have O7 : Hid (OwnS itLay 92 w7 W0.heap.size (.slice (some ⟨b', off', none⟩) p.xs.length c1) (p.xs.set k ⟨(kk : Int), bx.x0, bx.y0, bx.x1, bx.y1⟩)) := by
            have h5 := O6.out
            rw [hof.out] at h5
            have h6 := (RowE.set ⟨h5, rfl⟩ k hk ⟨(kk : Int), bx.x0, bx.y0, bx.x1, bx.y1⟩).1
            rw [hw7, hof.out, Nat.zero_add]
            exact Lib.hid h6
          have hk57 : ∀ j, j < W5.heap.size → j ≠ b' → w7.heap[j]? = W5.heap[j]? := fun j h5 h6 => (c67.block j (by omega) (by omega)).trans (B6.block j h5)
          have hk47 : ∀ j, j < w4.heap.size → j ≠ b' → w7.heap[j]? = w4.heap[j]? := fun j h5 h6 => (hk57 j (by omega) h6).trans (b5.block j h5)
          have hrd7 : RdP w7 (some ⟨b6, off6, none⟩) n4 c4 us := by
            have h3 : Off w3 (fun j => j = b') (fun W => RdP W (some ⟨b, off, none⟩) n cap ps) := HO0.out.keep B3.out.size (fun j hj e => by omega) (fun j hj _ => B3.out.block j hj)
            have h4 := hc4 none (fun _ e => by cases e) (fun j => j = b') (fun j e => by omega) h3
            exact h4 w7 (fun j h5 h6 => hk47 j h5 h6)
          have HB7 := Lib.hid (BookAt.mk (HB5.out.loc.of (by omega) (hk57 q hq5 (by omega))) (HB5.out.tag.of (hk57 q hq5 (by omega))) hrd7 HB5.out.eq)
          have Z7 := Lib.hid (Z5.of (show W5.heap.size ≤ w7.heap.size by omega) (hk57 _ Z5.1 (by omega)))
          have E7 := Lib.hid (E5.of (show W5.heap.size ≤ w7.heap.size by omega) (hk57 _ E5.1 (by omega)))
          have g7 : w.grownBy w7 (some q) := by
            refine ⟨c67.os.trans (B6.os.trans g5.os), c67.tape.trans (B6.tape.trans g5.tape), c67.output.trans (B6.output.trans g5.output), by omega, fun j hj hjq => ?_⟩
            exact (hk57 j (by omega) (by omega)).trans (g5.block j hj hjq)
          have hpk : pageAt r.1 e1.id = pk.pg := by
            rw [hkk.out, ← hb4.eq]
            exact pageAt_yes hpk
          have hup : Hid (upV p.xs x r = p.xs.set k ⟨(kk : Int), bx.x0, bx.y0, bx.x1, bx.y1⟩ ++ if r.2.1 then [r.2.2.1] else []) := by
            show _ = _
            unfold upV
            rw [hck.out, Int.toNat_natCast, hkid.out, hpk]
            have e9 : boxesV pk.pg.xs = bx := hbx
            rw [e9, hkk.out]
          have hsl : (p.xs.set k ⟨(kk : Int), bx.x0, bx.y0, bx.x1, bx.y1⟩).length = p.xs.length := List.length_set
          have hval : Hid (inV l x (f + 1) m = fin11 r.1 m false (upV p.xs x r)) := by
            have h5 := inV_inner (x := x) (f := f) (i := (m : Int)) (r := r) (l := l) (by rw [hlf.out]) (by rw [hxs.out, hkid.out]; exact hr.out) hok
            rw [hxs.out] at h5
            exact Lib.hid h5
          have hfit : Fits (N + f) (B + 4 * f) r.1 := by
            have h5 := hF.ins x f e1.id
            rw [hr.out] at h5
            exact h5
          have hge2 : l.length ≤ r.1.length := by
            have h5 := inV_ge l x f e1.id
            rw [hr.out] at h5
            exact h5
          clear hw7 hbx
          replace g7 := Lib.hid g7
          have hq7 : q < w7.heap.size := by omega
          obtain ⟨hn7, n7, n7f⟩ := N7.out
          have n70 := n7 0
          have n71 := n7 1
          simp at n70 n71
          obtain ⟨he7, ee, -⟩ := E7.out
          have ee0 := ee 0
          have ee1 := ee 1
          have ee2 := ee 2
          have ee3 := ee 3
          have ee4 := ee 4
          simp at ee0 ee1 ee2 ee3 ee4
          clear ee n7
          obtain ⟨ys, hys⟩ : ∃ ys, ys = p.xs.set k ⟨(kk : Int), bx.x0, bx.y0, bx.x1, bx.y1⟩ := ⟨_, rfl⟩
          rw [← hys] at O7 hup hsl
          replace hys := Lib.hid hys
          obtain ⟨M, hM⟩ : ∃ M, M = p.xs.length := ⟨_, rfl⟩
          have hMB : M ≤ B := by rw [hM]; exact hpxl
          rw [← hM] at O7 hsl n71 N7
          rw [← hM]
          replace hM := Lib.hid hM
          have hslh := Lib.hid hsl
          have hrow7 := Lib.hid (show ∀ j, (Value.slice (some ⟨b', off', none⟩) M c1).ownBlock = some j → j = b' from fun j hj => by
            simpa [Value.ownBlock] using hj.symm)
          replace hk47 := Lib.hid hk47
          clear hk57
          cases hmore : r.2.1 with
          | false =>
            have hy : Hid (upV p.xs x r = ys) := by
              show _ = _
              rw [hup.out, hmore]
              simp
            clear hsl
            go_wp2_with fail
            go_meet
            refine ⟨false, ys, r.1, _, n4, c4, us, some ⟨b', off', none⟩, c1, HB7.out, hfit, hge2, by rw [← hy.out]; exact hval.out, by rw [hslh.out]; omega, by rw [hslh.out]; exact N7.out, by rw [hslh.out]; exact rdS_ownsP O7.out, Z7.out, g7.out⟩
          | true =>
            have hy : Hid (upV p.xs x r = ys ++ [r.2.2.1]) := by
              show _ = _
              rw [hup.out, hmore]
              rfl
            have O7r : Hid (w7.ownsRow W0.heap.size 92 5 (.slice (some ⟨b', off', none⟩) M c1) M (ys.flatMap itLay.cells)) := by
              have h5 := O7.out
              unfold OwnS at h5
              rw [hsl] at h5
              exact Lib.hid h5
            have l1 := (World.cell?_alloc_lt w7 (.cells #[.int .i64 r.2.2.1.id, .int .i64 r.2.2.1.x0, .int .i64 r.2.2.1.y0, .int .i64 r.2.2.1.x1, .int .i64 r.2.2.1.y1] 92) ⟨w1.heap.size, 1, none⟩ hn7).trans n71
            clear hsl
            go_wp2_with (at_builtin; refine wpList_append_new rfl (.tmp 69) (.tmp 71) 30 rfl W0.heap.size 92 i0 _ 5 40 Try.underlying30 hi.out hz0.out hz1.out hz2.out rfl (by decide) (.slice (some ⟨b', off', none⟩) M c1) M (ys.flatMap itLay.cells) rfl (World.ownsRow.alloc O7r.out (.cells #[.int .i64 r.2.2.1.id, .int .i64 r.2.2.1.x0, .int .i64 r.2.2.1.y0, .int .i64 r.2.2.1.x1, .int .i64 r.2.2.1.y1] 92)) (some ⟨w7.heap.size, 0, none⟩) 1 1 (itLay.cells r.2.2.1) rfl rfl (fun h => by cases h) (fun p hp => by cases hp; exact World.news_of_block (cs := #[.int .i64 r.2.2.1.id, .int .i64 r.2.2.1.x0, .int .i64 r.2.2.1.y0, .int .i64 r.2.2.1.x1, .int .i64 r.2.2.1.y1]) (t := 92) (fr := (0, 0)) (heap_alloc_new w7 _)) (itLay.one r.2.2.1) (by unfold maxLen; omega) (by omega) (by simp; omega) ?_)
            intro v8 w8 o8 g8 f8
            have N8 := Lib.hid ((N7.out.alloc (.cells #[.int .i64 r.2.2.1.id, .int .i64 r.2.2.1.x0, .int .i64 r.2.2.1.y0, .int .i64 r.2.2.1.x1, .int .i64 r.2.2.1.y1] 92)).grown g8 (fun j hj => by have := hrow7.out j hj; omega))
            obtain ⟨ra, rc, rfl⟩ := owns_shape o8
            obtain ⟨hm8, mm, mf⟩ := id N8.out
            have s8 := g8.size
            simp at s8
            have hb78 : ∀ j, j < w7.heap.size → j ≠ b' → w8.heap[j]? = w7.heap[j]? := fun j h5 h6 => (g8.block j (by simp; omega) (fun e => h6 (hrow7.out j e.symm))).trans (Below.heap_alloc _ _ j h5)
            go_wp2_with fail
            have N9 := N8.out.set 1 (.slice ra (M + 1) rc) (by simp)
            have o8' : w8.ownsRow W0.heap.size 92 5 (.slice ra (M + 1) rc) (ys.length + 1) (ys.flatMap itLay.cells ++ itLay.cells r.2.2.1) := by rw [hslh.out, s0]; exact o8
            have O9 := ownS_set (ownS_snoc11 o8') (g := w1.heap.size) (fun hj => by
              rcases f8 _ hj with h3 | h3
              · have := hrow7.out _ h3; omega
              · simp at h3; omega) 1 (.slice ra (M + 1) rc)
            have Z9 := (Z7.out.of (show w7.heap.size ≤ w8.heap.size by omega) (hb78 _ Z7.out.1 (by omega))).other (p := w1.heap.size) 1 (.slice ra (M + 1) rc) (by omega)
            have hoff7 : Off w7 (fun j => j = b' ∨ j = w1.heap.size) (fun W => RdP W (some ⟨b6, off6, none⟩) n4 c4 us) := by
              have h3 : Off w3 (fun j => j = b' ∨ j = w1.heap.size) (fun W => RdP W (some ⟨b, off, none⟩) n cap ps) := HO0.out.keep B3.out.size (fun j hj e => by omega) (fun j hj _ => B3.out.block j hj)
              exact (hc4 none (fun _ e => by cases e) (fun j => j = b' ∨ j = w1.heap.size) (fun j e => by omega) h3).keep (by omega) (fun _ _ e => e) (fun j h5 h6 => hk47.out j h5 (fun e => h6 (.inl e)))
            have hrd9 : RdP (w8.setCell ⟨w1.heap.size, 1, none⟩ (.slice ra (M + 1) rc)) (some ⟨b6, off6, none⟩) n4 c4 us := hoff7 _ (fun j h5 h6 => (Below.heap_setCell _ _ _ _ (fun e => h6 (.inr e))).trans (hb78 j h5 (fun e => h6 (.inl e))))
            have hqne : w1.heap.size ≠ q := by omega
            have HB9 : BookAt (w8.setCell ⟨w1.heap.size, 1, none⟩ (.slice ra (M + 1) rc)) q root r.1 (some ⟨b6, off6, none⟩) n4 c4 us :=
              ⟨(HB7.out.loc.of (show w7.heap.size ≤ w8.heap.size by omega) (hb78 q hq7 (by omega))).other 1 _ hqne, (HB7.out.tag.of (hb78 q hq7 (by omega))).set _ _ _, hrd9, HB7.out.eq⟩
            have g9 : w.grownBy (w8.setCell ⟨w1.heap.size, 1, none⟩ (.slice ra (M + 1) rc)) (some q) := by
              refine ⟨g8.os.trans g7.out.os, g8.tape.trans g7.out.tape, g8.output.trans g7.out.output, by have := g7.out.size; simp; omega, fun j hj hjq => ?_⟩
              exact (Below.heap_setCell _ _ _ _ (by show j ≠ w1.heap.size; omega)).trans ((hb78 j (by have := g7.out.size; omega) (by omega)).trans (g7.out.block j hj hjq))
            have hlx : (ys ++ [r.2.2.1]).length = M + 1 := by rw [List.length_append, hslh.out]; rfl
            go_meet
            refine ⟨false, ys ++ [r.2.2.1], r.1, _, n4, c4, us, ra, rc, HB9, hfit, hge2, by rw [← hy.out]; exact hval.out, by rw [hlx]; omega, by rw [hlx]; exact N9, ?_, Z9, g9⟩
            rw [hlx]
            exact rdS_ownsP O9
    case rest =>
      obtain ⟨lf, ys, l', a', n', cap', ps', ay, cy, hba, hfit, hle, hval, hyl, hnd, hny, hz, hg⟩ := hcut
      have s1' := s1
      have hc0 := hba.loc.1
      have q0 := hba.loc.2.1 0
      have q1 := hba.loc.2.1 1
      simp at q0 q1
      have hqqn : q ≠ w1.heap.size := by have := HB0.out.loc.1; omega
      have hln : l'.length = n' := by rw [← hba.eq, List.length_map]; exact hba.rd.1.1.1
      have hpsn : ∀ p ∈ ps', p.n ≤ B + 4 * f := fun g hg => by
        have h5 := hfit.2 g.pg (by rw [← hba.eq]; exact List.mem_map_of_mem hg)
        rw [← (hba.rd.2 g hg).1.1]
        exact h5
      obtain ⟨L1, hL1⟩ : ∃ L1, putV l' m ⟨true, lf, ys⟩ = L1 := ⟨_, rfl⟩
      have hL1n : L1.length = l'.length := by rw [← hL1]; exact (putV_le _ _ _).1
      have hF1 : Fits (N + f) (B + 4 * f + 1) L1 := by rw [← hL1]; exact (hfit.mono (Nat.le_refl _) (Nat.le_succ _)).put _ (by show ys.length ≤ _; omega)
      have CP : Hid (∀ V, Below wc.heap.size wc V → Calls Try.prog 20 #[.agg #[.int .i64 root, .slice a' n' cap'], .int .i64 (m : Int), .agg #[.bool lf, .slice ay ys.length cy]] V (NewBook root L1 V)) := Lib.hid (fun V bV => by
        have := sPut_any root m a' n' cap' ps' lf ay ys.length cy ys V (hba.rd.below bV) (hny.below bV) (wf_small m (by omega) (by have := hfit.1; omega)) (by have := hfit.1; omega) (by omega) (fun g hg => by have := hpsn g hg; omega)
        rw [hba.eq, hL1] at this
        exact this)
      have KS : Hid (∀ V, Below wc.heap.size wc V → (fun V => V.cell? ⟨w1.heap.size, 0, none⟩ = some (.bool lf) ∧ V.cell? ⟨w1.heap.size, 1, none⟩ = some (.slice ay ys.length cy)) V) := Lib.hid (fun V b => ⟨((hnd.below b).2.1 0).trans rfl, ((hnd.below b).2.1 1).trans rfl⟩)
      have HBA := Lib.hid hba
      have HND := Lib.hid hnd
      have HZ := Lib.hid hz
      replace hL1 := Lib.hid hL1
      replace hval := Lib.hid hval
      have hln := Lib.hid hln
      have hL1n := Lib.hid hL1n
      clear hba hnd hz
      go_wp2_with fail
      refine wp_region_noPanic ?_
      refine wp_region_held_drew (S := fun V => V.cell? ⟨w1.heap.size, 0, none⟩ = some (.bool lf) ∧ V.cell? ⟨w1.heap.size, 1, none⟩ = some (.slice ay ys.length cy)) (by kernel_rfl) (KS.out _ (drew_below _)) (fun hHeld => ?_)
      refine wpAnyH_take (i := 0) (v := ?v0) rfl (by kernel_rfl) (by kernel_rfl) (by kernel_rfl) (fun _ _ _ h => h) (Or.inl ⟨by rfl, ?hy0⟩) (by assumption) ?rest0
      case hy0 => intro w hSw; (try dsimp only at hSw); go_simp; (try with_reducible rfl)
      simp only [List.getElem_toArray, List.getElem_cons_zero, Act.put, List.setIfInBounds_toArray, List.set_cons_zero, List.set_cons_succ]
      refine wpAnyH_take (i := 1) (v := ?v1) rfl (by kernel_rfl) (by kernel_rfl) (by kernel_rfl) (fun _ _ _ h => h) (Or.inl ⟨by rfl, ?hy1⟩) (by assumption) ?rest1
      case hy1 => intro w hSw; (try dsimp only at hSw); go_simp; (try with_reducible rfl)
      simp only [List.getElem_toArray, List.getElem_cons_zero, List.getElem_cons_succ, Act.put, List.setIfInBounds_toArray, List.set_cons_zero, List.set_cons_succ]
      refine wpAnyH_take (i := 2) (v := ?v2) rfl (by kernel_rfl) (by kernel_rfl) (by kernel_rfl) (fun _ _ _ h => h) (Or.inl ⟨by rfl, ?hy2⟩) (by assumption) ?rest2
      case hy2 => intro w hSw; (try dsimp only at hSw); go_simp; (try with_reducible rfl)
      simp only [List.getElem_toArray, List.getElem_cons_zero, List.getElem_cons_succ, Act.put, List.setIfInBounds_toArray, List.set_cons_zero, List.set_cons_succ]
      refine wpAnyH_take (i := 4) (v := ?v4) rfl (by kernel_rfl) (by kernel_rfl) (by kernel_rfl) (fun _ _ _ h => h) (Or.inl ⟨by rfl, ?hy4⟩) (by assumption) ?rest4
      case hy4 => intro w hSw; (try dsimp only at hSw); go_simp; (try with_reducible rfl)
      simp only [List.getElem_toArray, List.getElem_cons_zero, List.getElem_cons_succ, Act.put, List.setIfInBounds_toArray, List.set_cons_zero, List.set_cons_succ]
      refine wpAnyH_take (i := 5) (v := ?v5) rfl (by kernel_rfl) (by kernel_rfl) (by kernel_rfl) (fun _ _ _ h => h) (Or.inl ⟨by rfl, ?hy5⟩) (by assumption) ?rest5
      case hy5 => intro w hSw; (try dsimp only at hSw); go_simp; (try with_reducible rfl)
      simp only [List.getElem_toArray, List.getElem_cons_zero, List.getElem_cons_succ, Act.put, List.setIfInBounds_toArray, List.set_cons_zero, List.set_cons_succ]
      refine wpAnyH_ready (rs := [3]) (by kernel_rfl) (by simp) ?_
      refine AllReadyH.cons rfl (fun K hK => ?_) AllReadyH.nil
      go_simp
      refine hK.out _ _ (KS.out _ (drew_below _)) (fun hHeld => ?_)
      clear hK K
      refine wpAnyH_ready (rs := [6]) (by kernel_rfl) (by simp) ?_
      refine AllReadyH.cons rfl (fun K hK => ?_) AllReadyH.nil
      go_simp
      refine (CP.out _ (drew_below _)).mono ?_
      rintro e w5 ⟨v5, rs, rfl, ers, o5, b5⟩
      obtain ⟨a5, c5, rfl⟩ := o5.shape
      have B5 : Below wc.heap.size wc w5 := (drew_below wc).trans b5
      have Q5 := Lib.hid o5
      have E5 := Lib.hid ers
      clear b5 o5 ers
      refine hK.out _ _ (KS.out _ B5) (fun hHeld => ?_)
      clear hK K
      obtain ⟨hq5, qq, qf⟩ := HBA.out.loc.below B5
      have qq0 := qq 0
      have qq1 := qq 1
      simp at qq0 qq1
      refine wpAnyH_ready (rs := [7]) (by kernel_rfl) (by simp) ?_
      refine AllReadyH.cons rfl (fun K hK => ?_) AllReadyH.nil
      go_simp
      refine hK.out _ _ (KS.out _ B5) (fun hHeld => ?_)
      clear hK K
      refine wpAnyH_ready (rs := [8]) (by kernel_rfl) (by simp) ?_
      refine AllReadyH.cons rfl (fun K hK => ?_) AllReadyH.nil
      go_simp
      have TQ5 : TagT 26 w5 q := HBA.out.tag.of (B5.block q hc0)
      have N6 := ((HND.out.below B5).other 0 (.int .i64 root) hqqn).other 1 (.slice a5 rs.length c5) hqqn
      refine hK.out _ _ ⟨(N6.2.1 0).trans rfl, (N6.2.1 1).trans rfl⟩ (fun hHeld => ?_)
      clear hK K
      refine wpAnyH_done (by kernel_rfl) ?_ _
      refine NoPanic.normal ?_
      clear hHeld
      obtain ⟨w6, hw6⟩ : ∃ w6, w6 = (w5.setCell ⟨q, 0, none⟩ (.int .i64 root)).setCell ⟨q, 1, none⟩ (.slice a5 rs.length c5) := ⟨_, rfl⟩
      have s6 : w6.heap.size = w5.heap.size := by rw [hw6]; simp
      have HB6 : BookAt w6 q root L1 a5 rs.length c5 rs := by
        rw [hw6]
        refine ⟨((HBA.out.loc.below B5).set 0 (.int .i64 root) (by simp)).set 1 (.slice a5 rs.length c5) (by simp), (TQ5.set _ _ _).set _ _ _, ?_, E5.out⟩
        exact ((Q5.out.store TQ5 0 _).store (TQ5.set _ _ _) 1 _).rd
      have hoff : ∀ o : Option Nat, (∀ B, o = some B → B ≤ w.heap.size) → ∀ Z : Nat → Prop, (∀ k, Z k → k < w.heap.size) → Off w Z (fun W => Bk o W (some ⟨b, off, none⟩) n cap ps) → Off w6 (fun k => Z k ∨ k = w.heap.size + 1) (fun W => Bk o W a5 rs.length c5 rs) := fun o hB Z hZ _ => by
        have h6 : OwnP w6 wc.heap.size (.slice a5 rs.length c5) rs := by rw [hw6]; exact (Q5.out.store TQ5 0 _).store (TQ5.set _ _ _) 1 _
        refine h6.offB o (fun B e => by have := hB B e; have := hg.size; omega) (fun k hk => ?_)
        rcases hk with hk | rfl
        · have := hZ k hk; have := hg.size; omega
        · exact HZ.out.1
      have g6 : w.grownBy w6 (some q) := by
        rw [hw6]
        exact grown_setCell (grown_setCell (grown_trans hg (Below.toGrown B5 _)) _ _ _ rfl) _ _ _ rfl
      have Z6 : Loc w6 (w.heap.size + 1) #[.int .i64 0, .int .i64 0, .int .i64 0, .int .i64 0, .int .i64 0] := by
        rw [hw6]
        exact ((HZ.out.below B5).other 0 _ (by omega)).other 1 _ (by omega)
      have N6' : Loc w6 w1.heap.size #[.bool lf, .slice ay ys.length cy] := by rw [hw6]; exact N6
      refine (by assumption : ∀ (a : Act) (w : World), _ → _) _ _ ?_
      rw [← hw6]
      clear hw6 N6 Q5 TQ5 qq0 qq1 qq qf q0 q1
      obtain ⟨hn6, nn, -⟩ := N6'
      have nn0 := nn 0
      have nn1 := nn 1
      simp at nn0 nn1
      have hyn := hny.1.2.1
      have hym := hny.1.2.2.1
      unfold maxLen at hym
      by_cases h4 : ys.length ≤ 4
      · have h4' : (ys.length : Int) ≤ 4 := by omega
        have hr : Hid (inV l x (f + 1) m = (L1, false, zeroIt, true)) := Lib.hid (by rw [hval.out]; unfold fin11; rw [if_pos h4, hL1.out])
        obtain ⟨hz6, zz, zf⟩ := id Z6
        go_wp2_with fail
        have ZF := (five_loc Z6 (.int .i64 0) (.int .i64 0) (.int .i64 0) (.int .i64 0) (.int .i64 0)).2.1
        have hEnd := five_end (z := w.heap.size + 1) HB6 g6 hqw (by omega) hz6 hoff HO0.out (.int .i64 0) (.int .i64 0) (.int .i64 0) (.int .i64 0) (.int .i64 0)
        have e5 : five w6 (w.heap.size + 1) (.int .i64 0) (.int .i64 0) (.int .i64 0) (.int .i64 0) (.int .i64 0) = ((((w6.setCell ⟨w.heap.size + 1, 0, none⟩ (.int .i64 0)).setCell ⟨w.heap.size + 1, 1, none⟩ (.int .i64 0)).setCell ⟨w.heap.size + 1, 2, none⟩ (.int .i64 0)).setCell ⟨w.heap.size + 1, 3, none⟩ (.int .i64 0)).setCell ⟨w.heap.size + 1, 4, none⟩ (.int .i64 0) := rfl
        rw [← e5]
        clear e5
        generalize five w6 (w.heap.size + 1) (.int .i64 0) (.int .i64 0) (.int .i64 0) (.int .i64 0) (.int .i64 0) = WF at ZF hEnd ⊢
        refine bodyPost_ret (v := .tuple #[.bool false, .agg #[.int .i64 0, .int .i64 0, .int .i64 0, .int .i64 0, .int .i64 0], .bool true]) (by simp [results, Try.results128, go_sem, ZF]) rfl ?_
        rw [hr.out]
        exact ⟨rfl, hEnd⟩
      · have h4' : ¬ (ys.length : Int) ≤ 4 := by omega
        have hrl : rs.length = L1.length := len_pgs E5.out
        have CQ := l11Part_any q root m L1 a5 rs.length c5 rs w6 HB6 ⟨by omega, by omega⟩ (by have := hF1.1; omega) (fun g hg => by
          have h5 := hF1.2 g.pg (by rw [← HB6.eq]; exact List.mem_map_of_mem hg)
          have h6 : g.xs.length = g.n := (HB6.rd.2 g hg).1.1
          have h7 : g.pg.xs.length = g.xs.length := rfl
          omega)
        obtain ⟨pv, hpv⟩ : ∃ pv, partV L1 m = pv := ⟨_, rfl⟩
        rw [hpv] at CQ
        have hr : Hid (inV l x (f + 1) m = (pv.1, true, pv.2.1, pv.2.2)) := Lib.hid (by rw [hval.out]; unfold fin11; rw [if_neg h4, hL1.out, hpv])
        replace hpv := Lib.hid hpv
        replace CQ := Lib.hid CQ
        replace hrl := Lib.hid hrl
        go_wp2_with fail
        refine CQ.out.mono ?_
        rintro e w7 ⟨rfl, a7, n7, c7, ts, hb7, g7, hc7⟩
        have Z7 := Z6.grown g7 (fun k hk => by cases hk; omega)
        have hz7 := Z7.1
        obtain ⟨-, zz, zf⟩ := id Z7
        have s7 := g7.size
        have hoff7 : ∀ o : Option Nat, (∀ B, o = some B → B ≤ w.heap.size) → ∀ Z : Nat → Prop, (∀ k, Z k → k < w.heap.size) → Off w Z (fun W => Bk o W (some ⟨b, off, none⟩) n cap ps) → Off w7 (fun k => Z k ∨ k = w.heap.size + 1) (fun W => Bk o W a7 n7 c7 ts) := fun o hB Z hZ ho =>
          hc7 o (fun B e => by have := hB B e; have := g6.size; omega) _ (fun k hk => by
            rcases hk with hk | rfl
            · have := hZ k hk; have := g6.size; omega
            · exact Z6.1) (hoff o hB Z hZ ho)
        have g67 := grown_trans g6 g7
        obtain ⟨W8, hW8⟩ : ∃ W8, W8 = w7.alloc (.cells #[.int .i64 pv.2.1.id, .int .i64 pv.2.1.x0, .int .i64 pv.2.1.y0, .int .i64 pv.2.1.x1, .int .i64 pv.2.1.y1] 92) := ⟨_, rfl⟩
        go_wp2_with fail
        rw [← hW8]
        have E8 : Loc W8 w7.heap.size #[.int .i64 pv.2.1.id, .int .i64 pv.2.1.x0, .int .i64 pv.2.1.y0, .int .i64 pv.2.1.x1, .int .i64 pv.2.1.y1] := by rw [hW8]; exact Loc.new _ _ _
        have b8 : Below w7.heap.size w7 W8 := by rw [hW8]; exact new_below w7 _
        have Z8 := Z7.below b8
        have HB8 := hb7.keep b8
        have g8 := grown_trans g67 (Below.toGrown b8 (some q))
        have hoff8 : ∀ o : Option Nat, (∀ B, o = some B → B ≤ w.heap.size) → ∀ Z : Nat → Prop, (∀ k, Z k → k < w.heap.size) → Off w Z (fun W => Bk o W (some ⟨b, off, none⟩) n cap ps) → Off W8 (fun k => Z k ∨ k = w.heap.size + 1) (fun W => Bk o W a7 n7 c7 ts) := fun o hB Z hZ ho =>
          (hoff7 o hB Z hZ ho).keep b8.size (fun _ _ e => e) (fun k hk _ => b8.block k hk)
        clear hW8 zz zf
        obtain ⟨hz8, zz, zf⟩ := id Z8
        obtain ⟨he8, ee, ef⟩ := id E8
        have ee0 := ee 0
        have ee1 := ee 1
        have ee2 := ee 2
        have ee3 := ee 3
        have ee4 := ee 4
        simp at ee0 ee1 ee2 ee3 ee4
        have hze : w.heap.size + 1 ≠ w7.heap.size := by omega
        go_big_region
        have ZF := (five_loc Z8 (.int .i64 pv.2.1.id) (.int .i64 pv.2.1.x0) (.int .i64 pv.2.1.y0) (.int .i64 pv.2.1.x1) (.int .i64 pv.2.1.y1)).drew.2.1
        have hEnd := newAt_below (five_end (z := w.heap.size + 1) HB8 g8 hqw (by omega) hz8 hoff8 HO0.out (.int .i64 pv.2.1.id) (.int .i64 pv.2.1.x0) (.int .i64 pv.2.1.y0) (.int .i64 pv.2.1.x1) (.int .i64 pv.2.1.y1)) (drew_below _)
        have e5 : five W8 (w.heap.size + 1) (.int .i64 pv.2.1.id) (.int .i64 pv.2.1.x0) (.int .i64 pv.2.1.y0) (.int .i64 pv.2.1.x1) (.int .i64 pv.2.1.y1) = ((((W8.setCell ⟨w.heap.size + 1, 0, none⟩ (.int .i64 pv.2.1.id)).setCell ⟨w.heap.size + 1, 1, none⟩ (.int .i64 pv.2.1.x0)).setCell ⟨w.heap.size + 1, 2, none⟩ (.int .i64 pv.2.1.y0)).setCell ⟨w.heap.size + 1, 3, none⟩ (.int .i64 pv.2.1.x1)).setCell ⟨w.heap.size + 1, 4, none⟩ (.int .i64 pv.2.1.y1) := rfl
        rw [← e5]
        clear e5
        generalize (five W8 (w.heap.size + 1) (.int .i64 pv.2.1.id) (.int .i64 pv.2.1.x0) (.int .i64 pv.2.1.y0) (.int .i64 pv.2.1.x1) (.int .i64 pv.2.1.y1)).drew = WF at ZF hEnd ⊢
        go_wp2_with fail
        refine bodyPost_ret (v := .tuple #[.bool true, .agg #[.int .i64 pv.2.1.id, .int .i64 pv.2.1.x0, .int .i64 pv.2.1.y0, .int .i64 pv.2.1.x1, .int .i64 pv.2.1.y1], .bool pv.2.2]) (by simp [results, Try.results128, go_sem, ZF]) rfl ?_
        rw [hr.out]
        exact ⟨rfl, hEnd⟩
end Go.Proofs.Ytfefggcfeppeiaa
