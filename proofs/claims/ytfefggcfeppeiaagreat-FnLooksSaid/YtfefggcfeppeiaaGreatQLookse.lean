/- Texts of this seat laid together: In11, ReachM, Down, Insert, DrawBox, DrawPair, DrawBoxes, DrawItem. -/
import Derived.Test.YtfefggcfeppeiaaGreatQLooksd
import Derived.Deep.CutBlock
import Derived.Deep.DeepCutAuto

/- The model's l11In: an item goes into a page of the book that a pointer leads to. -/
namespace Go.Proofs.YtfefggcfeppeiaaGreat
open Go.RowKit
attribute [local go_sem ↓] Go.wp_at_zero Go.wp_at_succ

theorem rdS_off {α : Type} {L : Lay α} {w W : World} {a : Option Addr} {n cap : Nat} {xs : List α} (h : RdS L w a n cap xs) (hW : ∀ k, k < w.heap.size → W.heap[k]? = w.heap[k]?) : RdS L W a n cap xs :=
  (RdS.frame (lo := 0) (hi := w.heap.size) (fun b off e hn => by
    obtain ⟨b', off', e', hlt, -⟩ := h.at_ hn
    rw [e] at e'
    cases e'
    exact ⟨Nat.zero_le _, hlt⟩)) w W (fun k _ hk => hW k hk) h
theorem rdP_off {w : World} {a : Option Addr} {n cap : Nat} {ps : List PgV} (h : RdP w a n cap ps) : Off w (fun _ => False) (fun W => RdP W a n cap ps) :=
  fun _ hW => ⟨rdS_off h.1 (fun k hk => hW k hk (fun e => e)), fun p hp => rdS_off (h.2 p hp) (fun k hk => hW k hk (fun e => e))⟩
/-- What l11In answers. -/
def RetIn (q : Nat) (root : Int) (a : Option Addr) (n cap : Nat) (ps : List PgV) (r : List Pg × Bool × It × Bool) (w : World) (e : Ending) (w' : World) : Prop :=
  e = .returned (.tuple #[.bool r.2.1, .agg #[.int .i64 r.2.2.1.id, .int .i64 r.2.2.1.x0, .int .i64 r.2.2.1.y0, .int .i64 r.2.2.1.x1, .int .i64 r.2.2.1.y1], .bool r.2.2.2]) ∧ NewAt w q root a n cap ps r.1 w'
/-- Five stores into the result's block. -/
def five (W : World) (z : Nat) (u0 u1 u2 u3 u4 : Value) : World := ((((W.setCell ⟨z, 0, none⟩ u0).setCell ⟨z, 1, none⟩ u1).setCell ⟨z, 2, none⟩ u2).setCell ⟨z, 3, none⟩ u3).setCell ⟨z, 4, none⟩ u4
theorem five_chg (W : World) (z : Nat) (u0 u1 u2 u3 u4 : Value) : ChgIn z (z + 1) W (five W z u0 u1 u2 u3 u4) :=
  ChgIn.of_grown (row := some z) (grown_setCell (grown_setCell (grown_setCell (grown_setCell (grown_setCell (World.grownBy.refl _ _) _ _ _ rfl) _ _ _ rfl) _ _ _ rfl) _ _ _ rfl) _ _ _ rfl) (fun g hg => by cases hg; omega)
theorem five_loc {W : World} {z : Nat} {v0 v1 v2 v3 v4 : Value} (h : Loc W z #[v0, v1, v2, v3, v4]) (u0 u1 u2 u3 u4 : Value) : Loc (five W z u0 u1 u2 u3 u4) z #[u0, u1, u2, u3, u4] :=
  ((((h.set 0 u0 (by simp)).set 1 u1 (by simp)).set 2 u2 (by simp)).set 3 u3 (by simp)).set 4 u4 (by simp)
theorem five_end {w W : World} {q z : Nat} {root : Int} {L : List Pg} {a a0 : Option Addr} {n cap n0 cap0 : Nat} {ps ps0 : List PgV} (HB : BookAt W q root L a n cap ps) (hg : w.grownBy W (some q)) (hq : q < w.heap.size) (hz : w.heap.size ≤ z) (hzW : z < W.heap.size)
    (hc : ∀ o : Option Nat, (∀ B, o = some B → B ≤ w.heap.size) → ∀ Z : Nat → Prop, (∀ k, Z k → k < w.heap.size) → Off w Z (fun W => Bk o W a0 n0 cap0 ps0) → Off W (fun k => Z k ∨ k = z) (fun W => Bk o W a n cap ps)) (hw' : Off w (fun _ => False) (fun W => RdP W a0 n0 cap0 ps0)) (u0 u1 u2 u3 u4 : Value) :
    NewAt w q root a0 n0 cap0 ps0 L (five W z u0 u1 u2 u3 u4) := by
  have cF := five_chg W z u0 u1 u2 u3 u4
  have hne : ¬ (z ≤ q ∧ q < z + 1) := by omega
  have hd : ∀ o : Option Nat, (∀ B, o = some B → B ≤ w.heap.size) → ∀ Z : Nat → Prop, (∀ k, Z k → k < w.heap.size) → Off w Z (fun W => Bk o W a0 n0 cap0 ps0) → Off (five W z u0 u1 u2 u3 u4) Z (fun W => Bk o W a n cap ps) := fun o hB Z hZ ho =>
    (hc o hB Z hZ ho).keep cF.size (fun k _ e => Or.inl e) (fun k hk e => cF.block k hk (fun e2 => e (Or.inr (by omega))))
  refine ⟨a, n, cap, ps, ⟨HB.loc.of cF.size (cF.block q HB.loc.1 hne), HB.tag.of (cF.block q HB.loc.1 hne), (hd none (fun _ e => by cases e) (fun _ => False) (fun _ e => e.elim) hw').self, HB.eq⟩, ?_, hd⟩
  exact ⟨cF.os.trans hg.os, cF.tape.trans hg.tape, cF.output.trans hg.output, Nat.le_trans hg.size cF.size, fun k hk hn => (cF.block k (by have := hg.size; omega) (by omega)).trans (hg.block k hk hn)⟩

theorem newAt_below {w W W' : World} {q : Nat} {root : Int} {L : List Pg} {a0 : Option Addr} {n0 cap0 : Nat} {ps0 : List PgV} (h : NewAt w q root a0 n0 cap0 ps0 L W) (b : Below W.heap.size W W') : NewAt w q root a0 n0 cap0 ps0 L W' := by
  obtain ⟨a, n, cap, ps, HB, hg, hc⟩ := h
  exact ⟨a, n, cap, ps, HB.keep b, grown_trans hg (Below.toGrown b (some q)), fun o hB Z hZ ho => (hc o hB Z hZ ho).keep b.size (fun _ _ e => e) (fun k hk _ => b.block k hk)⟩
theorem ownS_snoc11 {w : World} {e : TypeId} {base : Nat} {v : Value} {ys : List It} {y : It} (h : w.ownsRow base e 5 v (ys.length + 1) (ys.flatMap itLay.cells ++ itLay.cells y)) : OwnS itLay e w base v (ys ++ [y]) := by
  show w.ownsRow base e 5 v _ _
  rw [List.length_append, List.flatMap_append]
  simpa using h
/-- Ahead of the Put: the book behind the pointer, the page's node in the local's block qn. -/
def Mid11 (w : World) (q qn : Nat) (root : Int) (l : List Pg) (N B : Nat) (x : It) (f : Nat) (m : Int) (V : World) : Prop :=
  ∃ (lf : Bool) (ys : List It) (l' : List Pg) (a : Option Addr) (n cap : Nat) (ps : List PgV) (ay : Option Addr) (cy : Nat), BookAt V q root l' a n cap ps ∧ Fits (N + f) (B + 4 * f) l' ∧ l.length ≤ l'.length ∧ inV l x (f + 1) m = fin11 l' m lf ys ∧ ys.length ≤ B + 1 ∧
    Loc V qn #[.bool lf, .slice ay ys.length cy] ∧ RdS itLay V ay ys.length cy ys ∧ Loc V (w.heap.size + 1) #[.int .i64 0, .int .i64 0, .int .i64 0, .int .i64 0, .int .i64 0] ∧ w.grownBy V (some q)

set_option maxRecDepth 100000 in
set_option maxHeartbeats 3200000 in
theorem l11In_any (x : It) (q : Nat) (root : Int) (l : List Pg) (N B : Nat) (hF : Fits N B l) : ∀ (f : Nat) (i : Int) (a : Option Addr) (n cap : Nat) (ps : List PgV) (w : World), BookAt w q root l a n cap ps → f ≤ 12 → Down l f i → N + f ≤ 1000 → B + 4 * f ≤ 1048000 →
    Calls Tryz.prog 89 #[.pointer (some ⟨q, 0, none⟩), .int .i64 i, .agg #[.int .i64 x.id, .int .i64 x.x0, .int .i64 x.y0, .int .i64 x.x1, .int .i64 x.y1], .int .i64 (13 - (f : Int))] w (RetIn q root a n cap ps (inV l x f i) w) := by
  obtain ⟨i0, hi, hz0, hz1, hz2⟩ := info_parts Tryz.infoEntry
  replace hi := Lib.hid hi
  replace hz0 := Lib.hid hz0
  replace hz1 := Lib.hid hz1
  replace hz2 := Lib.hid hz2
  intro f
  induction f with
  | zero =>
    intro i a n cap ps w h hf hd hN hB
    obtain ⟨h0, h1⟩ := hd.in_
    obtain ⟨m, rfl⟩ := Int.eq_ofNat_of_zero_le h0
    have hll : l.length = n := by rw [← h.eq, List.length_map]; exact h.rd.1.1.1
    have hmn : m < n := by omega
    have z1 : (m : Int) < n := by omega
    have hnc := h.rd.1.1.2.1
    have hm := h.rd.1.1.2.2.1
    unfold maxLen at hm
    obtain ⟨W0, hW0⟩ : ∃ W0, W0 = (w.alloc (.cells #[.int .i64 x.id, .int .i64 x.x0, .int .i64 x.y0, .int .i64 x.x1, .int .i64 x.y1] 47)).alloc (.cells #[.int .i64 0, .int .i64 0, .int .i64 0, .int .i64 0, .int .i64 0] 77) := ⟨_, rfl⟩
    have B0 : Below w.heap.size w W0 := by subst hW0; exact ((Below.refl _ _).alloc (Nat.le_refl _) _).alloc (by simp) _
    have s0 : W0.heap.size = w.heap.size + 1 + 1 := by subst hW0; simp
    have X0 : Loc W0 w.heap.size #[.int .i64 x.id, .int .i64 x.x0, .int .i64 x.y0, .int .i64 x.x1, .int .i64 x.y1] := by subst hW0; exact (Loc.new w _ _).alloc _
    have Z0 : Loc W0 (w.heap.size + 1) #[.int .i64 0, .int .i64 0, .int .i64 0, .int .i64 0, .int .i64 0] := by
      subst hW0
      have := Loc.new (w.alloc (.cells #[.int .i64 x.id, .int .i64 x.x0, .int .i64 x.y0, .int .i64 x.x1, .int .i64 x.y1] 47)) #[.int .i64 0, .int .i64 0, .int .i64 0, .int .i64 0, .int .i64 0] 77
      rw [show (w.alloc (.cells #[.int .i64 x.id, .int .i64 x.x0, .int .i64 x.y0, .int .i64 x.x1, .int .i64 x.y1] 47)).heap.size = w.heap.size + 1 by simp] at this
      exact this
    have HB := Lib.hid h
    have hqw := h.loc.1
    have HB0 := Lib.hid (h.keep B0)
    have HO0 := Lib.hid (rdP_off h.rd)
    obtain ⟨b, off, p, rfl, hbl, hp, hrd', d0, d1, d2⟩ := rdP_at h.rd hmn
    have hrd := hrd'.below B0
    have hpa : pageAt l m = p.pg := by rw [← h.eq]; exact pageAt_yes hp
    have hlf : Hid ((pageAt l m).leaf = p.leaf) := Lib.hid (by rw [hpa]; rfl)
    have hxs : Hid ((pageAt l m).xs = p.xs) := Lib.hid (by rw [hpa]; rfl)
    have hpx : p.xs.length = p.n := hrd.1.1
    have hpn : p.n ≤ B := by rw [← hpx, ← hxs.out]; exact hF.at_ m
    have CL := Lib.hid (l5Copy_any p.leaf p.a p.n p.cap p.xs W0 hrd (by omega))
    replace hpx := Lib.hid hpx
    have k0 := h.loc.2.1 0
    have k1 := h.loc.2.1 1
    simp at k0 k1
    clear h hrd hrd' hpa
    go_enter Tryz.func89, Tryz.ntmps89
    go_wp2_with fail
    rw [← hW0]
    clear hW0 k0 k1 d0 d1 d2
    refine CL.out.mono ?_
    rintro e w1 ⟨v1, rfl, o1, b1⟩
    obtain ⟨a1, c1, rfl, -⟩ := o1.rd
    have s1 := b1.size
    have N1 := Lib.hid (Loc.new w1 #[.bool p.leaf, .slice a1 p.xs.length c1] 59)
    obtain ⟨W2, hW2⟩ : ∃ W2, W2 = w1.alloc (.cells #[.bool p.leaf, .slice a1 p.xs.length c1] 59) := ⟨_, rfl⟩
    have b2 : Below w1.heap.size w1 W2 := by subst hW2; exact new_below w1 _
    rw [← hW2] at N1
    go_upto_block 0 with (fail)
    rw [← hW2]
    clear hW2
    have B2 : Below w.heap.size w W2 := (B0.trans (b1.mono B0.size)).trans (b2.mono (by omega))
    have Z2 := (Z0.below b1).below b2
    have HB2 := HB.out.keep B2
    have hoff2 : ∀ o : Option Nat, (∀ B, o = some B → B ≤ w.heap.size) → ∀ Z : Nat → Prop, (∀ k, Z k → k < w.heap.size) → Off w Z (fun W => Bk o W (some ⟨b, off, none⟩) n cap ps) → Off W2 (fun k => Z k ∨ k = w.heap.size + 1) (fun W => Bk o W (some ⟨b, off, none⟩) n cap ps) := fun o hB Z hZ ho =>
      ho.keep B2.size (fun k hk e => by
        rcases e with e | e
        · exact e
        · omega) (fun k hk _ => B2.block k hk)
    obtain ⟨hz2, zz, zf⟩ := id Z2
    clear CL o1
    go_wp2_with fail
    have ZF := (five_loc Z2 (.int .i64 0) (.int .i64 0) (.int .i64 0) (.int .i64 0) (.int .i64 0)).2.1
    have hEnd := five_end (z := w.heap.size + 1) HB2 (Below.toGrown B2 (some q)) hqw (by omega) hz2 hoff2 HO0.out (.int .i64 0) (.int .i64 0) (.int .i64 0) (.int .i64 0) (.int .i64 0)
    have e5 : five W2 (w.heap.size + 1) (.int .i64 0) (.int .i64 0) (.int .i64 0) (.int .i64 0) (.int .i64 0) = ((((W2.setCell ⟨w.heap.size + 1, 0, none⟩ (.int .i64 0)).setCell ⟨w.heap.size + 1, 1, none⟩ (.int .i64 0)).setCell ⟨w.heap.size + 1, 2, none⟩ (.int .i64 0)).setCell ⟨w.heap.size + 1, 3, none⟩ (.int .i64 0)).setCell ⟨w.heap.size + 1, 4, none⟩ (.int .i64 0) := rfl
    rw [← e5]
    clear e5
    generalize five W2 (w.heap.size + 1) (.int .i64 0) (.int .i64 0) (.int .i64 0) (.int .i64 0) (.int .i64 0) = WF at ZF hEnd ⊢
    refine bodyPost_ret (v := .tuple #[.bool false, .agg #[.int .i64 0, .int .i64 0, .int .i64 0, .int .i64 0, .int .i64 0], .bool false]) (by simp [results, Tryz.results89, go_sem, ZF]) rfl ?_
    exact ⟨rfl, hEnd⟩
  | succ f ih =>
    intro i a n cap ps w h hf hd hN hB
    obtain ⟨h0, h1⟩ := hd.in_
    obtain ⟨m, rfl⟩ := Int.eq_ofNat_of_zero_le h0
    have hll : l.length = n := by rw [← h.eq, List.length_map]; exact h.rd.1.1.1
    have hmn : m < n := by omega
    have z1 : (m : Int) < n := by omega
    have hnc := h.rd.1.1.2.1
    have hm := h.rd.1.1.2.2.1
    unfold maxLen at hm
    obtain ⟨W0, hW0⟩ : ∃ W0, W0 = (w.alloc (.cells #[.int .i64 x.id, .int .i64 x.x0, .int .i64 x.y0, .int .i64 x.x1, .int .i64 x.y1] 47)).alloc (.cells #[.int .i64 0, .int .i64 0, .int .i64 0, .int .i64 0, .int .i64 0] 77) := ⟨_, rfl⟩
    have B0 : Below w.heap.size w W0 := by subst hW0; exact ((Below.refl _ _).alloc (Nat.le_refl _) _).alloc (by simp) _
    have s0 : W0.heap.size = w.heap.size + 1 + 1 := by subst hW0; simp
    have X0 : Loc W0 w.heap.size #[.int .i64 x.id, .int .i64 x.x0, .int .i64 x.y0, .int .i64 x.x1, .int .i64 x.y1] := by subst hW0; exact (Loc.new w _ _).alloc _
    have Z0 : Loc W0 (w.heap.size + 1) #[.int .i64 0, .int .i64 0, .int .i64 0, .int .i64 0, .int .i64 0] := by
      subst hW0
      have := Loc.new (w.alloc (.cells #[.int .i64 x.id, .int .i64 x.x0, .int .i64 x.y0, .int .i64 x.x1, .int .i64 x.y1] 47)) #[.int .i64 0, .int .i64 0, .int .i64 0, .int .i64 0, .int .i64 0] 77
      rw [show (w.alloc (.cells #[.int .i64 x.id, .int .i64 x.x0, .int .i64 x.y0, .int .i64 x.x1, .int .i64 x.y1] 47)).heap.size = w.heap.size + 1 by simp] at this
      exact this
    have HB := Lib.hid h
    have hqw := h.loc.1
    have HB0 := Lib.hid (h.keep B0)
    have HO0 := Lib.hid (rdP_off h.rd)
    obtain ⟨b, off, p, rfl, hbl, hp, hrd', d0, d1, d2⟩ := rdP_at h.rd hmn
    have hrd := hrd'.below B0
    have hpa : pageAt l m = p.pg := by rw [← h.eq]; exact pageAt_yes hp
    have hlf : Hid ((pageAt l m).leaf = p.leaf) := Lib.hid (by rw [hpa]; rfl)
    have hxs : Hid ((pageAt l m).xs = p.xs) := Lib.hid (by rw [hpa]; rfl)
    have hpx : p.xs.length = p.n := hrd.1.1
    have hpn : p.n ≤ B := by rw [← hpx, ← hxs.out]; exact hF.at_ m
    have CL := Lib.hid (l5Copy_any p.leaf p.a p.n p.cap p.xs W0 hrd (by omega))
    replace hpx := Lib.hid hpx
    have k0 := h.loc.2.1 0
    have k1 := h.loc.2.1 1
    simp at k0 k1
    replace hd := Lib.hid hd
    replace ih := Lib.hid ih
    clear h hrd hrd' hpa
    go_enter Tryz.func89, Tryz.ntmps89
    go_wp2_with fail
    rw [← hW0]
    clear hW0 k0 k1 d0 d1 d2
    refine CL.out.mono ?_
    rintro e w1 ⟨v1, rfl, o1, b1⟩
    obtain ⟨a1, c1, rfl, -⟩ := o1.rd
    have s1 := b1.size
    have N1 := Lib.hid (Loc.new w1 #[.bool p.leaf, .slice a1 p.xs.length c1] 59)
    obtain ⟨W2, hW2⟩ : ∃ W2, W2 = w1.alloc (.cells #[.bool p.leaf, .slice a1 p.xs.length c1] 59) := ⟨_, rfl⟩
    have b2 : Below w1.heap.size w1 W2 := by subst hW2; exact new_below w1 _
    rw [← hW2] at N1
    have hdeep : ¬ ((12 : Int) < 13 - ((f + 1 : Nat) : Int)) := by omega
    go_upto_block 0 with (fail)
    rw [← hW2]
    clear hW2
    go_cut [] (fun V => Mid11 w q w1.heap.size root l N B x f m V)
    case first =>
      have hn1 := N1.out.1
      have B2 : Below w.heap.size w W2 := (B0.trans (b1.mono B0.size)).trans (b2.mono (by omega))
      have X2 := (X0.below b1).below b2
      have Z2 := Lib.hid ((Z0.below b1).below b2)
      have O2 : Hid (OwnS itLay 77 W2 W0.heap.size (.slice a1 p.xs.length c1) p.xs) := Lib.hid (o1.below b2)
      have hrow : ∀ j, (Value.slice a1 p.xs.length c1).ownBlock = some j → W0.heap.size ≤ j ∧ j < w1.heap.size := fun j hj => World.ownsRow.lt o1 j hj
      have hpxl : p.xs.length ≤ B := by rw [hpx.out]; exact hpn
      have S2 := b2.size
      obtain ⟨-, xx, -⟩ := id X2
      have xx0 := xx 0
      have xx1 := xx 1
      have xx2 := xx 2
      have xx3 := xx 3
      have xx4 := xx 4
      simp at xx0 xx1 xx2 xx3 xx4
      have hwn : w.heap.size ≠ w1.heap.size := by omega
      clear o1 b1 CL xx B0 X0 Z0
      cases hl : p.leaf with
      | true =>
        rw [hl] at N1 hlf
        obtain ⟨-, nn, nf⟩ := N1.out
        have nn0 := nn 0
        have nn1 := nn 1
        simp at nn0 nn1
        have l1 := (World.cell?_alloc_lt W2 (.cells #[.int .i64 x.id, .int .i64 x.x0, .int .i64 x.y0, .int .i64 x.x1, .int .i64 x.y1] 77) ⟨w1.heap.size, 1, none⟩ hn1).trans nn1
        go_wp2_with (at_builtin; refine wpList_append_new rfl (.tmp 82) (.tmp 88) 57 rfl W0.heap.size 77 i0 _ 5 40 Tryz.underlying57 hi.out hz0.out hz1.out hz2.out rfl (by decide) (.slice a1 p.xs.length c1) p.xs.length (p.xs.flatMap itLay.cells) rfl (World.ownsRow.alloc O2.out (.cells #[.int .i64 x.id, .int .i64 x.x0, .int .i64 x.y0, .int .i64 x.x1, .int .i64 x.y1] 77)) (some ⟨W2.heap.size, 0, none⟩) 1 1 (itLay.cells x) rfl rfl (fun h => by cases h) (fun p hp => by cases hp; exact World.news_of_block (cs := #[.int .i64 x.id, .int .i64 x.x0, .int .i64 x.y0, .int .i64 x.x1, .int .i64 x.y1]) (t := 77) (fr := (0, 0)) (heap_alloc_new W2 _)) (itLay.one x) (by unfold maxLen; omega) (by omega) (by simp; omega) ?_)
        intro v2 w2 o3 g2 f2
        have N3 := Lib.hid ((N1.out.alloc (.cells #[.int .i64 x.id, .int .i64 x.x0, .int .i64 x.y0, .int .i64 x.x1, .int .i64 x.y1] 77)).grown g2 (fun k hk => by have := hrow k hk; omega))
        obtain ⟨ra, rc, rfl⟩ := owns_shape o3
        obtain ⟨hm3, mm, mf⟩ := id N3.out
        go_wp2_with fail
        have B9 := ((B2.alloc (by omega) (.cells #[.int .i64 x.id, .int .i64 x.x0, .int .i64 x.y0, .int .i64 x.x1, .int .i64 x.y1] 77)).grown g2 (by simp; omega) (fun j hj => by have := hrow j hj; omega)).setCell (p := ⟨w1.heap.size, 1, none⟩) (show w.heap.size ≤ w1.heap.size by omega) (.slice ra (p.xs.length + 1) rc)
        have N9 := N3.out.set 1 (.slice ra (p.xs.length + 1) rc) (by simp)
        have O9 := ownS_set (ownS_snoc11 o3) (g := w1.heap.size) (fun hj => by
          rcases f2 _ hj with h3 | h3
          · have := hrow _ h3; omega
          · simp at h3; omega) 1 (.slice ra (p.xs.length + 1) rc)
        have Z9 := ((Z2.out.alloc (.cells #[.int .i64 x.id, .int .i64 x.x0, .int .i64 x.y0, .int .i64 x.x1, .int .i64 x.y1] 77)).grown g2 (fun k hk => by have := hrow k hk; omega)).other (p := w1.heap.size) 1 (.slice ra (p.xs.length + 1) rc) (by omega)
        have hlx : (p.xs ++ [x]).length = p.xs.length + 1 := by rw [List.length_append]; rfl
        go_meet
        refine ⟨true, p.xs ++ [x], l, _, n, cap, ps, ra, rc, HB.out.keep B9, hF.mono (by omega) (by omega), Nat.le_refl _, (inV_leaf hlf.out).trans (by rw [hxs.out]), by rw [hlx]; omega, by rw [hlx]; exact N9, ?_, Z9, Below.toGrown B9 _⟩
        rw [hlx]
        exact rdS_ownsP O9
      | false =>
        rw [hl] at N1 hlf
        obtain ⟨k, e, hck, hk, hek, hkid, hdk⟩ := hd.out.kid hlf.out x
        rw [hxs.out] at hck hk hek hkid
        obtain ⟨-, nn, nf⟩ := N1.out
        have nn0 := nn 0
        have nn1 := nn 1
        simp at nn0 nn1
        have CC := sChoose_any a1 p.xs.length c1 p.xs (boxOf x) W2 (rdS_ownsP O2.out)
        rw [hck] at CC
        replace CC := Lib.hid CC
        replace hck := Lib.hid hck
        replace hkid := Lib.hid hkid
        replace hdk := Lib.hid hdk
        have hek' := Lib.hid hek
        clear hek
        go_wp2_with fail
        refine CC.out.mono ?_
        rintro e' w3 ⟨rfl, b3⟩
        have s3 := b3.size
        have X3 := Lib.hid (X2.below b3)
        have B3 := Lib.hid (B2.trans (b3.mono B2.size))
        have Z3 := Lib.hid (Z2.out.below b3)
        have N3 := Lib.hid (N1.out.below b3)
        have O3 := Lib.hid (O2.out.below b3)
        obtain ⟨b', off', e1, he1, hb1, hx1, d0, d1, d2, d3, d4⟩ := rdIt_at (rdS_ownsP O3.out) hk
        obtain rfl : e1 = e := by rw [hek'.out] at hx1; exact (Option.some.inj hx1).symm
        subst he1
        have hof : Hid (off' = 0) := Lib.hid (by
          rcases (show w3.ownsRow W0.heap.size 77 5 (.slice (some ⟨b', off', none⟩) p.xs.length c1) _ _ from O3.out).2 with ⟨h5, -⟩ | ⟨g, cap, -, h5, -⟩
          · cases h5
          · cases h5; rfl)
        obtain ⟨-, nn, nf⟩ := N3.out
        have nn0 := nn 0
        have nn1 := nn 1
        simp at nn0 nn1
        obtain ⟨-, xx, -⟩ := X3.out
        have xx0 := xx 0
        have xx1 := xx 1
        have xx2 := xx 2
        have xx3 := xx 3
        have xx4 := xx 4
        simp at xx0 xx1 xx2 xx3 xx4
        have y0 : (0 : Int) ≤ k := by omega
        have y1 : (k : Int) < p.xs.length := by omega
        clear b3 CC hx1
        obtain ⟨r, hr⟩ : ∃ r, inV l x f e1.id = r := ⟨_, rfl⟩
        have CR := ih.out e1.id _ n cap ps w3 (HB.out.keep B3.out) (by omega) hdk.out (by omega) (by omega)
        rw [hr] at CR
        replace CR := Lib.hid CR
        replace hr := Lib.hid hr
        have hde : (13 : Int) - ((f : Int) + 1) + 1 = 13 - (f : Int) := by omega
        go_wp2_with fail
        clear hde
        refine CR.out.mono ?_
        rintro e' w4 ⟨rfl, a4, n4, c4, us, hb4, g4, hc4⟩
        have Z4 := Lib.hid (Z3.out.grown g4 (fun k hk => by cases hk; omega))
        have N4 := Lib.hid (N3.out.grown g4 (fun k hk => by cases hk; have := HB0.out.loc.1; omega))
        have O4 : Hid (OwnS itLay 77 w4 W0.heap.size (.slice (some ⟨b', off', none⟩) p.xs.length c1) p.xs) := Lib.hid (OwnS.kept O3.out g4 (.inr (fun h5 => by
          have := (hrow q h5).1
          have := HB0.out.loc.1
          omega)))
        have s4 := g4.size
        obtain ⟨W5, hW5⟩ : ∃ W5, W5 = w4.alloc (.cells #[.int .i64 r.2.2.1.id, .int .i64 r.2.2.1.x0, .int .i64 r.2.2.1.y0, .int .i64 r.2.2.1.x1, .int .i64 r.2.2.1.y1] 77) := ⟨_, rfl⟩
        have E5 : Loc W5 w4.heap.size #[.int .i64 r.2.2.1.id, .int .i64 r.2.2.1.x0, .int .i64 r.2.2.1.y0, .int .i64 r.2.2.1.x1, .int .i64 r.2.2.1.y1] := by rw [hW5]; exact Loc.new _ _ _
        have b5 : Below w4.heap.size w4 W5 := by rw [hW5]; exact new_below w4 _
        have Z5 := Z4.out.below b5
        have N5 := Lib.hid (N4.out.below b5)
        have O5 := Lib.hid (O4.out.below b5)
        have s5 := b5.size
        have HB5 := Lib.hid (hb4.keep b5)
        have g5 := grown_trans (grown_trans (Below.toGrown B3.out (some q)) g4) (Below.toGrown b5 (some q))
        have hoff5 : ∀ o : Option Nat, (∀ B, o = some B → B ≤ w.heap.size) → ∀ Z : Nat → Prop, (∀ k, Z k → k < w.heap.size) → Off w Z (fun W => Bk o W (some ⟨b, off, none⟩) n cap ps) → Off W5 (fun k => Z k ∨ k = w.heap.size + 1) (fun W => Bk o W a4 n4 c4 us) := fun o hB Z hZ ho => by
          have h3 : Off w3 (fun k => Z k ∨ k = w.heap.size + 1) (fun W => Bk o W (some ⟨b, off, none⟩) n cap ps) := ho.keep B3.out.size (fun k hk e => by
            rcases e with e | e
            · exact e
            · omega) (fun k hk _ => B3.out.block k hk)
          exact (hc4 o (fun B e => by have := hB B e; omega) _ (fun k hk => by
            rcases hk with hk | rfl
            · have := hZ k hk; omega
            · exact Z3.out.1) h3).keep b5.size (fun _ _ e => e) (fun k hk _ => b5.block k hk)
        clear nn0 nn1 xx0 xx1 xx2 xx3 xx4 d0 d1 d2 d3 d4 nf nn xx X3
        cases hok : r.2.2.2 with
        | false =>
          have hrr : Hid (inV l x (f + 1) m = (r.1, false, zeroIt, false)) := Lib.hid (inV_not hlf.out (by rw [hxs.out, hkid.out]; exact hr.out) hok)
          obtain ⟨hz5, zz, zf⟩ := id Z5
          go_upto_region 5 with (fail)
          rw [← hW5]
          clear hW5
          go_wp2_with fail
          have ZF := (five_loc Z5 (.int .i64 0) (.int .i64 0) (.int .i64 0) (.int .i64 0) (.int .i64 0)).2.1
          have hEnd := five_end (z := w.heap.size + 1) HB5.out g5 hqw (by omega) hz5 hoff5 HO0.out (.int .i64 0) (.int .i64 0) (.int .i64 0) (.int .i64 0) (.int .i64 0)
          have e5 : five W5 (w.heap.size + 1) (.int .i64 0) (.int .i64 0) (.int .i64 0) (.int .i64 0) (.int .i64 0) = ((((W5.setCell ⟨w.heap.size + 1, 0, none⟩ (.int .i64 0)).setCell ⟨w.heap.size + 1, 1, none⟩ (.int .i64 0)).setCell ⟨w.heap.size + 1, 2, none⟩ (.int .i64 0)).setCell ⟨w.heap.size + 1, 3, none⟩ (.int .i64 0)).setCell ⟨w.heap.size + 1, 4, none⟩ (.int .i64 0) := rfl
          rw [← e5]
          clear e5
          generalize five W5 (w.heap.size + 1) (.int .i64 0) (.int .i64 0) (.int .i64 0) (.int .i64 0) (.int .i64 0) = WF at ZF hEnd ⊢
          refine bodyPost_ret (v := .tuple #[.bool false, .agg #[.int .i64 0, .int .i64 0, .int .i64 0, .int .i64 0, .int .i64 0], .bool false]) (by simp [results, Tryz.results89, go_sem, ZF]) rfl ?_
          rw [hrr.out]
          exact ⟨rfl, hEnd⟩
        | true =>
          go_upto_region 5 with (fail)
          rw [← hW5]
          clear hW5
          obtain ⟨hk0, hk1⟩ := hdk.out.in_
          obtain ⟨kk, hkk⟩ := Int.eq_ofNat_of_zero_le hk0
          have hll4 : us.length = r.1.length := len_pgs hb4.eq
          have hn4 : us.length = n4 := hb4.rd.1.1.1
          have hge := inV_ge l x f e1.id
          rw [hr.out] at hge
          have hkn : kk < n4 := by omega
          obtain ⟨b6, off6, pk, ha4, hb6, hpk, hrk, t0, t1, t2⟩ := rdP_at HB5.out.rd hkn
          have hcap4 := HB5.out.rd.1.1.2.1
          have hm4 := HB5.out.rd.1.1.2.2.1
          unfold maxLen at hm4
          have hq5 := HB5.out.loc.1
          have q50 := HB5.out.loc.2.1 0
          have q51 := HB5.out.loc.2.1 1
          simp at q50 q51
          subst ha4
          have hbk := sBoundOf_any pk.leaf pk.a pk.n pk.cap pk.xs W5.drew (hrk.below (drew_below _)) (by
            have h5 := (hF.ins x f e1.id).2 pk.pg (by rw [hr.out, ← hb4.eq]; exact List.mem_map_of_mem (List.mem_of_getElem? hpk))
            have h6 : pk.xs.length = pk.n := hrk.1.1
            have h7 : pk.pg.xs.length = pk.xs.length := rfl
            omega)
          have CB := Lib.hid hbk
          have KS : Hid (∀ V, Below W5.heap.size W5 V → (fun V => V.cell? ⟨w1.heap.size, 1, none⟩ = some (.slice (some ⟨b', off', none⟩) p.xs.length c1)) V) := Lib.hid (fun V b => ((N5.out.below b).2.1 1).trans rfl)
          have z0 : (0 : Int) ≤ kk := by omega
          have z1 : (kk : Int) < n4 := by omega
          clear hk0 hk1 hge hbk
          replace hn4 := Lib.hid hn4
          replace hll4 := Lib.hid hll4
          go_wp2_with fail
          replace hkk := Lib.hid hkk
          refine wp_region_noPanic ?_
          refine wp_region_held_drew (S := fun V => V.cell? ⟨w1.heap.size, 1, none⟩ = some (.slice (some ⟨b', off', none⟩) p.xs.length c1)) (by kernel_rfl) (KS.out _ (drew_below _)) (fun hHeld => ?_)
          refine wpAnyH_take (i := 0) (v := ?w0) rfl (by kernel_rfl) (by kernel_rfl) (by kernel_rfl) (fun _ _ _ h => h) (Or.inl ⟨by rfl, ?hz0⟩) (by assumption) ?sest0
          case hz0 => intro w hSw; (try dsimp only at hSw); go_simp; (try with_reducible rfl)
          simp only [List.getElem_toArray, List.getElem_cons_zero, Act.put, List.setIfInBounds_toArray, List.set_cons_zero, List.set_cons_succ]
          refine wpAnyH_take (i := 1) (v := ?w1) rfl (by kernel_rfl) (by kernel_rfl) (by kernel_rfl) (fun _ _ _ h => h) (Or.inl ⟨by rfl, ?hz1⟩) (by assumption) ?sest1
          case hz1 => intro w hSw; (try dsimp only at hSw); go_simp; (try with_reducible rfl)
          simp only [List.getElem_toArray, List.getElem_cons_zero, List.getElem_cons_succ, Act.put, List.setIfInBounds_toArray, List.set_cons_zero, List.set_cons_succ]
          refine wpAnyH_take (i := 2) (v := ?w2) rfl (by kernel_rfl) (by kernel_rfl) (by kernel_rfl) (fun _ _ _ h => h) (Or.inl ⟨by rfl, ?hz2⟩) (by assumption) ?sest2
          case hz2 => intro w hSw; (try dsimp only at hSw); go_simp; (try with_reducible rfl)
          simp only [List.getElem_toArray, List.getElem_cons_zero, List.getElem_cons_succ, Act.put, List.setIfInBounds_toArray, List.set_cons_zero, List.set_cons_succ]
          refine wpAnyH_take (i := 3) (v := ?w3) rfl (by kernel_rfl) (by kernel_rfl) (by kernel_rfl) (fun _ _ _ h => h) (Or.inl ⟨by rfl, ?hz3⟩) (by assumption) ?sest3
          case hz3 => intro w hSw; (try dsimp only at hSw); go_simp; (try with_reducible rfl)
          simp only [List.getElem_toArray, List.getElem_cons_zero, List.getElem_cons_succ, Act.put, List.setIfInBounds_toArray, List.set_cons_zero, List.set_cons_succ]
          refine wpAnyH_take (i := 4) (v := ?w4) rfl (by kernel_rfl) (by kernel_rfl) (by kernel_rfl) (fun _ _ _ h => h) (Or.inl ⟨by rfl, ?hz4⟩) (by assumption) ?sest4
          case hz4 => intro w hSw; (try dsimp only at hSw); go_simp; (try with_reducible rfl)
          simp only [List.getElem_toArray, List.getElem_cons_zero, List.getElem_cons_succ, Act.put, List.setIfInBounds_toArray, List.set_cons_zero, List.set_cons_succ]
          refine wpAnyH_take (i := 5) (v := ?w5) rfl (by kernel_rfl) (by kernel_rfl) (by kernel_rfl) (fun _ _ _ h => h) (Or.inl ⟨by rfl, ?hz5⟩) (by assumption) ?sest5
          case hz5 => intro w hSw; (try dsimp only at hSw); go_simp; (try with_reducible rfl)
          simp only [List.getElem_toArray, List.getElem_cons_zero, List.getElem_cons_succ, Act.put, List.setIfInBounds_toArray, List.set_cons_zero, List.set_cons_succ]
          refine wpAnyH_take (i := 6) (v := ?w6) rfl (by kernel_rfl) (by kernel_rfl) (by kernel_rfl) (fun _ _ _ h => h) (Or.inl ⟨by rfl, ?hz6⟩) (by assumption) ?sest6
          case hz6 => intro w hSw; (try dsimp only at hSw); go_simp; (try with_reducible rfl)
          simp only [List.getElem_toArray, List.getElem_cons_zero, List.getElem_cons_succ, Act.put, List.setIfInBounds_toArray, List.set_cons_zero, List.set_cons_succ]
          refine wpAnyH_take (i := 8) (v := ?w8) rfl (by kernel_rfl) (by kernel_rfl) (by kernel_rfl) (fun _ _ _ h => h) (Or.inl ⟨by rfl, ?hz8⟩) (by assumption) ?sest8
          case hz8 => intro w hSw; (try dsimp only at hSw); go_simp; (try with_reducible rfl)
          simp only [List.getElem_toArray, List.getElem_cons_zero, List.getElem_cons_succ, Act.put, List.setIfInBounds_toArray, List.set_cons_zero, List.set_cons_succ]
          refine wpAnyH_ready (rs := [7]) (by kernel_rfl) (by simp) ?_
          refine AllReadyH.cons rfl (fun K hK => ?_) AllReadyH.nil
          go_simp
          refine hK.out _ _ (KS.out _ (drew_below _)) (fun hHeld => ?_)
          clear hK K
          refine wpAnyH_ready (rs := [9]) (by kernel_rfl) (by simp) ?_
          refine AllReadyH.cons rfl (fun K hK => ?_) AllReadyH.nil
          go_simp
          refine hK.out _ _ (KS.out _ (drew_below _)) (fun hHeld => ?_)
          clear hK K
          refine wpAnyH_ready (rs := [10]) (by kernel_rfl) (by simp) ?_
          refine AllReadyH.cons rfl (fun K hK => ?_) AllReadyH.nil
          go_simp
          refine hK.out _ _ (KS.out _ (drew_below _)) (fun hHeld => ?_)
          clear hK K
          refine wpAnyH_ready (rs := [11]) (by kernel_rfl) (by simp) ?_
          refine AllReadyH.cons rfl (fun K hK => ?_) AllReadyH.nil
          go_simp
          refine hK.out _ _ (KS.out _ (drew_below _)) (fun hHeld => ?_)
          clear hK K
          refine wpAnyH_ready (rs := [12]) (by kernel_rfl) (by simp) ?_
          refine AllReadyH.cons rfl (fun K hK => ?_) AllReadyH.nil
          go_simp
          refine CB.out.mono ?_
          rintro e' w6 ⟨rfl, b6'⟩
          have B6 : Below W5.heap.size W5 w6 := (drew_below W5).trans b6'
          have O6 := Lib.hid (O5.out.below B6)
          clear b6'
          refine hK.out _ _ (KS.out _ B6) (fun hHeld => ?_)
          clear hK K
          refine wpAnyH_ready (rs := [13]) (by kernel_rfl) (by simp) ?_
          refine AllReadyH.cons rfl (fun K hK => ?_) AllReadyH.nil
          go_simp
          refine hK.out _ _ (KS.out _ B6) (fun hHeld => ?_)
          clear hK K
          refine wpAnyH_ready (rs := [14]) (by kernel_rfl) (by simp) ?_
          refine AllReadyH.cons rfl (fun K hK => ?_) AllReadyH.nil
          go_simp
          refine hK.out _ _ (KS.out _ B6) (fun hHeld => ?_)
          clear hK K
          obtain ⟨b7, off7, e7, he7, -, -, v0, v1, v2, v3, v4⟩ := rdIt_at (rdS_ownsP O6.out) hk
          cases he7
          have fz : ∀ j, w6.frozen? ⟨b', j, none⟩ = false := by
            have h := O6.out
            rw [hof.out] at h
            exact fun j => RowE.froz ⟨h, rfl⟩ j
          refine wpAnyH_ready (rs := [15]) (by kernel_rfl) (by simp) ?_
          refine AllReadyH.cons rfl (fun K hK => ?_) AllReadyH.nil
          go_simp
          have hbq : b' ≠ w1.heap.size := by have := (hrow b' rfl).2; omega
          have N7 := Lib.hid ((((((N5.out.below B6).other (off' + k * 5) (.int .i64 (kk : Int)) hbq).other (off' + k * 5 + 1) (.int .i64 (joinAll (pk.xs.map boxOf)).x0) hbq).other (off' + k * 5 + 2) (.int .i64 (joinAll (pk.xs.map boxOf)).y0) hbq).other (off' + k * 5 + 3) (.int .i64 (joinAll (pk.xs.map boxOf)).x1) hbq).other (off' + k * 5 + 4) (.int .i64 (joinAll (pk.xs.map boxOf)).y1) hbq)
          refine hK.out _ _ ((N7.out.2.1 1).trans rfl) (fun hHeld => ?_)
          clear hK K
          refine wpAnyH_done (by kernel_rfl) ?_ _
          refine NoPanic.normal ?_
          clear hHeld
          refine (by assumption : ∀ (a : Act) (w : World), _ → _) _ _ ?_
          have s6 := B6.size
          have hbw1 : W0.heap.size ≤ b' ∧ b' < w1.heap.size := hrow b' rfl
          have hbqq : b' ≠ q := by omega
          obtain ⟨bx, hbx⟩ : ∃ bx, joinAll (pk.xs.map boxOf) = bx := ⟨_, rfl⟩
          rw [hbx] at N7 ⊢
          obtain ⟨w7, hw7⟩ : ∃ w7, w7 = ((((w6.setCell ⟨b', off' + k * 5, none⟩ (.int .i64 (kk : Int))).setCell ⟨b', off' + k * 5 + 1, none⟩ (.int .i64 bx.x0)).setCell ⟨b', off' + k * 5 + 2, none⟩ (.int .i64 bx.y0)).setCell ⟨b', off' + k * 5 + 3, none⟩ (.int .i64 bx.x1)).setCell ⟨b', off' + k * 5 + 4, none⟩ (.int .i64 bx.y1) := ⟨_, rfl⟩
          rw [← hw7] at N7
          rw [← hw7]
          have c67 : ChgIn b' (b' + 1) w6 w7 := by
            rw [hw7]
            exact ChgIn.of_grown (row := some b') (grown_setCell (grown_setCell (grown_setCell (grown_setCell (grown_setCell (World.grownBy.refl _ _) _ _ _ rfl) _ _ _ rfl) _ _ _ rfl) _ _ _ rfl) _ _ _ rfl) (fun g hg => by cases hg; omega)
          have s7 := c67.size
          have O7 : Hid (OwnS itLay 77 w7 W0.heap.size (.slice (some ⟨b', off', none⟩) p.xs.length c1) (p.xs.set k ⟨(kk : Int), bx.x0, bx.y0, bx.x1, bx.y1⟩)) := by
            have h5 := O6.out
            rw [hof.out] at h5
            have h6 := (RowE.set ⟨h5, rfl⟩ k hk ⟨(kk : Int), bx.x0, bx.y0, bx.x1, bx.y1⟩).1
            rw [hw7, hof.out, Nat.zero_add]
            exact Lib.hid h6
          have hk57 : ∀ j, j < W5.heap.size → j ≠ b' → w7.heap[j]? = W5.heap[j]? := fun j h5 h6 => (c67.block j (by omega) (by omega)).trans (B6.block j h5)
          have hk47 : ∀ j, j < w4.heap.size → j ≠ b' → w7.heap[j]? = w4.heap[j]? := fun j h5 h6 => (hk57 j (by omega) h6).trans (b5.block j h5)
          have hrd7 : RdP w7 (some ⟨b6, off6, none⟩) n4 c4 us := by
            have h3 : Off w3 (fun j => j = b') (fun W => RdP W (some ⟨b, off, none⟩) n cap ps) := HO0.out.keep B3.out.size (fun j hj e => by omega) (fun j hj _ => B3.out.block j hj)
            have h4 := hc4 none (fun _ e => by cases e) (fun j => j = b') (fun j e => by omega) h3
            exact h4 w7 (fun j h5 h6 => hk47 j h5 h6)
          have HB7 := Lib.hid (BookAt.mk (HB5.out.loc.of (by omega) (hk57 q hq5 (by omega))) (HB5.out.tag.of (hk57 q hq5 (by omega))) hrd7 HB5.out.eq)
          have Z7 := Lib.hid (Z5.of (show W5.heap.size ≤ w7.heap.size by omega) (hk57 _ Z5.1 (by omega)))
          have E7 := Lib.hid (E5.of (show W5.heap.size ≤ w7.heap.size by omega) (hk57 _ E5.1 (by omega)))
          have g7 : w.grownBy w7 (some q) := by
            refine ⟨c67.os.trans (B6.os.trans g5.os), c67.tape.trans (B6.tape.trans g5.tape), c67.output.trans (B6.output.trans g5.output), by omega, fun j hj hjq => ?_⟩
            exact (hk57 j (by omega) (by omega)).trans (g5.block j hj hjq)
          have hpk : pageAt r.1 e1.id = pk.pg := by
            rw [hkk.out, ← hb4.eq]
            exact pageAt_yes hpk
          have hup : Hid (upV p.xs x r = p.xs.set k ⟨(kk : Int), bx.x0, bx.y0, bx.x1, bx.y1⟩ ++ if r.2.1 then [r.2.2.1] else []) := by
            show _ = _
            unfold upV
            rw [hck.out, Int.toNat_natCast, hkid.out, hpk]
            have e9 : boxesV pk.pg.xs = bx := hbx
            rw [e9, hkk.out]
          have hsl : (p.xs.set k ⟨(kk : Int), bx.x0, bx.y0, bx.x1, bx.y1⟩).length = p.xs.length := List.length_set
          have hval : Hid (inV l x (f + 1) m = fin11 r.1 m false (upV p.xs x r)) := by
            have h5 := inV_inner (x := x) (f := f) (i := (m : Int)) (r := r) (l := l) (by rw [hlf.out]) (by rw [hxs.out, hkid.out]; exact hr.out) hok
            rw [hxs.out] at h5
            exact Lib.hid h5
          have hfit : Fits (N + f) (B + 4 * f) r.1 := by
            have h5 := hF.ins x f e1.id
            rw [hr.out] at h5
            exact h5
          have hge2 : l.length ≤ r.1.length := by
            have h5 := inV_ge l x f e1.id
            rw [hr.out] at h5
            exact h5
          clear hw7 hbx
          replace g7 := Lib.hid g7
          have hq7 : q < w7.heap.size := by omega
          obtain ⟨hn7, n7, n7f⟩ := N7.out
          have n70 := n7 0
          have n71 := n7 1
          simp at n70 n71
          obtain ⟨he7, ee, -⟩ := E7.out
          have ee0 := ee 0
          have ee1 := ee 1
          have ee2 := ee 2
          have ee3 := ee 3
          have ee4 := ee 4
          simp at ee0 ee1 ee2 ee3 ee4
          clear ee n7
          obtain ⟨ys, hys⟩ : ∃ ys, ys = p.xs.set k ⟨(kk : Int), bx.x0, bx.y0, bx.x1, bx.y1⟩ := ⟨_, rfl⟩
          rw [← hys] at O7 hup hsl
          replace hys := Lib.hid hys
          obtain ⟨M, hM⟩ : ∃ M, M = p.xs.length := ⟨_, rfl⟩
          have hMB : M ≤ B := by rw [hM]; exact hpxl
          rw [← hM] at O7 hsl n71 N7
          rw [← hM]
          replace hM := Lib.hid hM
          have hslh := Lib.hid hsl
          have hrow7 := Lib.hid (show ∀ j, (Value.slice (some ⟨b', off', none⟩) M c1).ownBlock = some j → j = b' from fun j hj => by
            simpa [Value.ownBlock] using hj.symm)
          replace hk47 := Lib.hid hk47
          clear hk57
          cases hmore : r.2.1 with
          | false =>
            have hy : Hid (upV p.xs x r = ys) := by
              show _ = _
              rw [hup.out, hmore]
              simp
            clear hsl
            go_wp2_with fail
            go_meet
            refine ⟨false, ys, r.1, _, n4, c4, us, some ⟨b', off', none⟩, c1, HB7.out, hfit, hge2, by rw [← hy.out]; exact hval.out, by rw [hslh.out]; omega, by rw [hslh.out]; exact N7.out, by rw [hslh.out]; exact rdS_ownsP O7.out, Z7.out, g7.out⟩
          | true =>
            have hy : Hid (upV p.xs x r = ys ++ [r.2.2.1]) := by
              show _ = _
              rw [hup.out, hmore]
              rfl
            have O7r : Hid (w7.ownsRow W0.heap.size 77 5 (.slice (some ⟨b', off', none⟩) M c1) M (ys.flatMap itLay.cells)) := by
              have h5 := O7.out
              unfold OwnS at h5
              rw [hsl] at h5
              exact Lib.hid h5
            have l1 := (World.cell?_alloc_lt w7 (.cells #[.int .i64 r.2.2.1.id, .int .i64 r.2.2.1.x0, .int .i64 r.2.2.1.y0, .int .i64 r.2.2.1.x1, .int .i64 r.2.2.1.y1] 77) ⟨w1.heap.size, 1, none⟩ hn7).trans n71
            clear hsl
            go_wp2_with (at_builtin; refine wpList_append_new rfl (.tmp 69) (.tmp 71) 57 rfl W0.heap.size 77 i0 _ 5 40 Tryz.underlying57 hi.out hz0.out hz1.out hz2.out rfl (by decide) (.slice (some ⟨b', off', none⟩) M c1) M (ys.flatMap itLay.cells) rfl (World.ownsRow.alloc O7r.out (.cells #[.int .i64 r.2.2.1.id, .int .i64 r.2.2.1.x0, .int .i64 r.2.2.1.y0, .int .i64 r.2.2.1.x1, .int .i64 r.2.2.1.y1] 77)) (some ⟨w7.heap.size, 0, none⟩) 1 1 (itLay.cells r.2.2.1) rfl rfl (fun h => by cases h) (fun p hp => by cases hp; exact World.news_of_block (cs := #[.int .i64 r.2.2.1.id, .int .i64 r.2.2.1.x0, .int .i64 r.2.2.1.y0, .int .i64 r.2.2.1.x1, .int .i64 r.2.2.1.y1]) (t := 77) (fr := (0, 0)) (heap_alloc_new w7 _)) (itLay.one r.2.2.1) (by unfold maxLen; omega) (by omega) (by simp; omega) ?_)
            intro v8 w8 o8 g8 f8
            have N8 := Lib.hid ((N7.out.alloc (.cells #[.int .i64 r.2.2.1.id, .int .i64 r.2.2.1.x0, .int .i64 r.2.2.1.y0, .int .i64 r.2.2.1.x1, .int .i64 r.2.2.1.y1] 77)).grown g8 (fun j hj => by have := hrow7.out j hj; omega))
            obtain ⟨ra, rc, rfl⟩ := owns_shape o8
            obtain ⟨hm8, mm, mf⟩ := id N8.out
            have s8 := g8.size
            simp at s8
            have hb78 : ∀ j, j < w7.heap.size → j ≠ b' → w8.heap[j]? = w7.heap[j]? := fun j h5 h6 => (g8.block j (by simp; omega) (fun e => h6 (hrow7.out j e.symm))).trans (Below.heap_alloc _ _ j h5)
            go_wp2_with fail
            have N9 := N8.out.set 1 (.slice ra (M + 1) rc) (by simp)
            have o8' : w8.ownsRow W0.heap.size 77 5 (.slice ra (M + 1) rc) (ys.length + 1) (ys.flatMap itLay.cells ++ itLay.cells r.2.2.1) := by rw [hslh.out, s0]; exact o8
            have O9 := ownS_set (ownS_snoc11 o8') (g := w1.heap.size) (fun hj => by
              rcases f8 _ hj with h3 | h3
              · have := hrow7.out _ h3; omega
              · simp at h3; omega) 1 (.slice ra (M + 1) rc)
            have Z9 := (Z7.out.of (show w7.heap.size ≤ w8.heap.size by omega) (hb78 _ Z7.out.1 (by omega))).other (p := w1.heap.size) 1 (.slice ra (M + 1) rc) (by omega)
            have hoff7 : Off w7 (fun j => j = b' ∨ j = w1.heap.size) (fun W => RdP W (some ⟨b6, off6, none⟩) n4 c4 us) := by
              have h3 : Off w3 (fun j => j = b' ∨ j = w1.heap.size) (fun W => RdP W (some ⟨b, off, none⟩) n cap ps) := HO0.out.keep B3.out.size (fun j hj e => by omega) (fun j hj _ => B3.out.block j hj)
              exact (hc4 none (fun _ e => by cases e) (fun j => j = b' ∨ j = w1.heap.size) (fun j e => by omega) h3).keep (by omega) (fun _ _ e => e) (fun j h5 h6 => hk47.out j h5 (fun e => h6 (.inl e)))
            have hrd9 : RdP (w8.setCell ⟨w1.heap.size, 1, none⟩ (.slice ra (M + 1) rc)) (some ⟨b6, off6, none⟩) n4 c4 us := hoff7 _ (fun j h5 h6 => (Below.heap_setCell _ _ _ _ (fun e => h6 (.inr e))).trans (hb78 j h5 (fun e => h6 (.inl e))))
            have hqne : w1.heap.size ≠ q := by omega
            have HB9 : BookAt (w8.setCell ⟨w1.heap.size, 1, none⟩ (.slice ra (M + 1) rc)) q root r.1 (some ⟨b6, off6, none⟩) n4 c4 us :=
              ⟨(HB7.out.loc.of (show w7.heap.size ≤ w8.heap.size by omega) (hb78 q hq7 (by omega))).other 1 _ hqne, (HB7.out.tag.of (hb78 q hq7 (by omega))).set _ _ _, hrd9, HB7.out.eq⟩
            have g9 : w.grownBy (w8.setCell ⟨w1.heap.size, 1, none⟩ (.slice ra (M + 1) rc)) (some q) := by
              refine ⟨g8.os.trans g7.out.os, g8.tape.trans g7.out.tape, g8.output.trans g7.out.output, by have := g7.out.size; simp; omega, fun j hj hjq => ?_⟩
              exact (Below.heap_setCell _ _ _ _ (by show j ≠ w1.heap.size; omega)).trans ((hb78 j (by have := g7.out.size; omega) (by omega)).trans (g7.out.block j hj hjq))
            have hlx : (ys ++ [r.2.2.1]).length = M + 1 := by rw [List.length_append, hslh.out]; rfl
            go_meet
            refine ⟨false, ys ++ [r.2.2.1], r.1, _, n4, c4, us, ra, rc, HB9, hfit, hge2, by rw [← hy.out]; exact hval.out, by rw [hlx]; omega, by rw [hlx]; exact N9, ?_, Z9, g9⟩
            rw [hlx]
            exact rdS_ownsP O9
    case rest =>
      obtain ⟨lf, ys, l', a', n', cap', ps', ay, cy, hba, hfit, hle, hval, hyl, hnd, hny, hz, hg⟩ := hcut
      have s1' := s1
      have hc0 := hba.loc.1
      have q0 := hba.loc.2.1 0
      have q1 := hba.loc.2.1 1
      simp at q0 q1
      have hqqn : q ≠ w1.heap.size := by have := HB0.out.loc.1; omega
      have hln : l'.length = n' := by rw [← hba.eq, List.length_map]; exact hba.rd.1.1.1
      have hpsn : ∀ p ∈ ps', p.n ≤ B + 4 * f := fun g hg => by
        have h5 := hfit.2 g.pg (by rw [← hba.eq]; exact List.mem_map_of_mem hg)
        rw [← (hba.rd.2 g hg).1.1]
        exact h5
      obtain ⟨L1, hL1⟩ : ∃ L1, putV l' m ⟨true, lf, ys⟩ = L1 := ⟨_, rfl⟩
      have hL1n : L1.length = l'.length := by rw [← hL1]; exact (putV_le _ _ _).1
      have hF1 : Fits (N + f) (B + 4 * f + 1) L1 := by rw [← hL1]; exact (hfit.mono (Nat.le_refl _) (Nat.le_succ _)).put _ (by show ys.length ≤ _; omega)
      have CP : Hid (∀ V, Below wc.heap.size wc V → Calls Tryz.prog 92 #[.agg #[.int .i64 root, .slice a' n' cap'], .int .i64 (m : Int), .agg #[.bool lf, .slice ay ys.length cy]] V (NewBook root L1 V)) := Lib.hid (fun V bV => by
        have := sPut_any root m a' n' cap' ps' lf ay ys.length cy ys V (hba.rd.below bV) (hny.below bV) (wf_small m (by omega) (by have := hfit.1; omega)) (by have := hfit.1; omega) (by omega) (fun g hg => by have := hpsn g hg; omega)
        rw [hba.eq, hL1] at this
        exact this)
      have KS : Hid (∀ V, Below wc.heap.size wc V → (fun V => V.cell? ⟨w1.heap.size, 0, none⟩ = some (.bool lf) ∧ V.cell? ⟨w1.heap.size, 1, none⟩ = some (.slice ay ys.length cy)) V) := Lib.hid (fun V b => ⟨((hnd.below b).2.1 0).trans rfl, ((hnd.below b).2.1 1).trans rfl⟩)
      have HBA := Lib.hid hba
      have HND := Lib.hid hnd
      have HZ := Lib.hid hz
      replace hL1 := Lib.hid hL1
      replace hval := Lib.hid hval
      have hln := Lib.hid hln
      have hL1n := Lib.hid hL1n
      clear hba hnd hz
      go_wp2_with fail
      refine wp_region_noPanic ?_
      refine wp_region_held_drew (S := fun V => V.cell? ⟨w1.heap.size, 0, none⟩ = some (.bool lf) ∧ V.cell? ⟨w1.heap.size, 1, none⟩ = some (.slice ay ys.length cy)) (by kernel_rfl) (KS.out _ (drew_below _)) (fun hHeld => ?_)
      refine wpAnyH_take (i := 0) (v := ?v0) rfl (by kernel_rfl) (by kernel_rfl) (by kernel_rfl) (fun _ _ _ h => h) (Or.inl ⟨by rfl, ?hy0⟩) (by assumption) ?rest0
      case hy0 => intro w hSw; (try dsimp only at hSw); go_simp; (try with_reducible rfl)
      simp only [List.getElem_toArray, List.getElem_cons_zero, Act.put, List.setIfInBounds_toArray, List.set_cons_zero, List.set_cons_succ]
      refine wpAnyH_take (i := 1) (v := ?v1) rfl (by kernel_rfl) (by kernel_rfl) (by kernel_rfl) (fun _ _ _ h => h) (Or.inl ⟨by rfl, ?hy1⟩) (by assumption) ?rest1
      case hy1 => intro w hSw; (try dsimp only at hSw); go_simp; (try with_reducible rfl)
      simp only [List.getElem_toArray, List.getElem_cons_zero, List.getElem_cons_succ, Act.put, List.setIfInBounds_toArray, List.set_cons_zero, List.set_cons_succ]
      refine wpAnyH_take (i := 2) (v := ?v2) rfl (by kernel_rfl) (by kernel_rfl) (by kernel_rfl) (fun _ _ _ h => h) (Or.inl ⟨by rfl, ?hy2⟩) (by assumption) ?rest2
      case hy2 => intro w hSw; (try dsimp only at hSw); go_simp; (try with_reducible rfl)
      simp only [List.getElem_toArray, List.getElem_cons_zero, List.getElem_cons_succ, Act.put, List.setIfInBounds_toArray, List.set_cons_zero, List.set_cons_succ]
      refine wpAnyH_take (i := 4) (v := ?v4) rfl (by kernel_rfl) (by kernel_rfl) (by kernel_rfl) (fun _ _ _ h => h) (Or.inl ⟨by rfl, ?hy4⟩) (by assumption) ?rest4
      case hy4 => intro w hSw; (try dsimp only at hSw); go_simp; (try with_reducible rfl)
      simp only [List.getElem_toArray, List.getElem_cons_zero, List.getElem_cons_succ, Act.put, List.setIfInBounds_toArray, List.set_cons_zero, List.set_cons_succ]
      refine wpAnyH_take (i := 5) (v := ?v5) rfl (by kernel_rfl) (by kernel_rfl) (by kernel_rfl) (fun _ _ _ h => h) (Or.inl ⟨by rfl, ?hy5⟩) (by assumption) ?rest5
      case hy5 => intro w hSw; (try dsimp only at hSw); go_simp; (try with_reducible rfl)
      simp only [List.getElem_toArray, List.getElem_cons_zero, List.getElem_cons_succ, Act.put, List.setIfInBounds_toArray, List.set_cons_zero, List.set_cons_succ]
      refine wpAnyH_ready (rs := [3]) (by kernel_rfl) (by simp) ?_
      refine AllReadyH.cons rfl (fun K hK => ?_) AllReadyH.nil
      go_simp
      refine hK.out _ _ (KS.out _ (drew_below _)) (fun hHeld => ?_)
      clear hK K
      refine wpAnyH_ready (rs := [6]) (by kernel_rfl) (by simp) ?_
      refine AllReadyH.cons rfl (fun K hK => ?_) AllReadyH.nil
      go_simp
      refine (CP.out _ (drew_below _)).mono ?_
      rintro e w5 ⟨v5, rs, rfl, ers, o5, b5⟩
      obtain ⟨a5, c5, rfl⟩ := o5.shape
      have B5 : Below wc.heap.size wc w5 := (drew_below wc).trans b5
      have Q5 := Lib.hid o5
      have E5 := Lib.hid ers
      clear b5 o5 ers
      refine hK.out _ _ (KS.out _ B5) (fun hHeld => ?_)
      clear hK K
      obtain ⟨hq5, qq, qf⟩ := HBA.out.loc.below B5
      have qq0 := qq 0
      have qq1 := qq 1
      simp at qq0 qq1
      refine wpAnyH_ready (rs := [7]) (by kernel_rfl) (by simp) ?_
      refine AllReadyH.cons rfl (fun K hK => ?_) AllReadyH.nil
      go_simp
      refine hK.out _ _ (KS.out _ B5) (fun hHeld => ?_)
      clear hK K
      refine wpAnyH_ready (rs := [8]) (by kernel_rfl) (by simp) ?_
      refine AllReadyH.cons rfl (fun K hK => ?_) AllReadyH.nil
      go_simp
      have TQ5 : TagT 26 w5 q := HBA.out.tag.of (B5.block q hc0)
      have N6 := ((HND.out.below B5).other 0 (.int .i64 root) hqqn).other 1 (.slice a5 rs.length c5) hqqn
      refine hK.out _ _ ⟨(N6.2.1 0).trans rfl, (N6.2.1 1).trans rfl⟩ (fun hHeld => ?_)
      clear hK K
      refine wpAnyH_done (by kernel_rfl) ?_ _
      refine NoPanic.normal ?_
      clear hHeld
      obtain ⟨w6, hw6⟩ : ∃ w6, w6 = (w5.setCell ⟨q, 0, none⟩ (.int .i64 root)).setCell ⟨q, 1, none⟩ (.slice a5 rs.length c5) := ⟨_, rfl⟩
      have s6 : w6.heap.size = w5.heap.size := by rw [hw6]; simp
      have HB6 : BookAt w6 q root L1 a5 rs.length c5 rs := by
        rw [hw6]
        refine ⟨((HBA.out.loc.below B5).set 0 (.int .i64 root) (by simp)).set 1 (.slice a5 rs.length c5) (by simp), (TQ5.set _ _ _).set _ _ _, ?_, E5.out⟩
        exact ((Q5.out.store TQ5 0 _).store (TQ5.set _ _ _) 1 _).rd
      have hoff : ∀ o : Option Nat, (∀ B, o = some B → B ≤ w.heap.size) → ∀ Z : Nat → Prop, (∀ k, Z k → k < w.heap.size) → Off w Z (fun W => Bk o W (some ⟨b, off, none⟩) n cap ps) → Off w6 (fun k => Z k ∨ k = w.heap.size + 1) (fun W => Bk o W a5 rs.length c5 rs) := fun o hB Z hZ _ => by
        have h6 : OwnP w6 wc.heap.size (.slice a5 rs.length c5) rs := by rw [hw6]; exact (Q5.out.store TQ5 0 _).store (TQ5.set _ _ _) 1 _
        refine h6.offB o (fun B e => by have := hB B e; have := hg.size; omega) (fun k hk => ?_)
        rcases hk with hk | rfl
        · have := hZ k hk; have := hg.size; omega
        · exact HZ.out.1
      have g6 : w.grownBy w6 (some q) := by
        rw [hw6]
        exact grown_setCell (grown_setCell (grown_trans hg (Below.toGrown B5 _)) _ _ _ rfl) _ _ _ rfl
      have Z6 : Loc w6 (w.heap.size + 1) #[.int .i64 0, .int .i64 0, .int .i64 0, .int .i64 0, .int .i64 0] := by
        rw [hw6]
        exact ((HZ.out.below B5).other 0 _ (by omega)).other 1 _ (by omega)
      have N6' : Loc w6 w1.heap.size #[.bool lf, .slice ay ys.length cy] := by rw [hw6]; exact N6
      refine (by assumption : ∀ (a : Act) (w : World), _ → _) _ _ ?_
      rw [← hw6]
      clear hw6 N6 Q5 TQ5 qq0 qq1 qq qf q0 q1
      obtain ⟨hn6, nn, -⟩ := N6'
      have nn0 := nn 0
      have nn1 := nn 1
      simp at nn0 nn1
      have hyn := hny.1.2.1
      have hym := hny.1.2.2.1
      unfold maxLen at hym
      by_cases h4 : ys.length ≤ 4
      · have h4' : (ys.length : Int) ≤ 4 := by omega
        have hr : Hid (inV l x (f + 1) m = (L1, false, zeroIt, true)) := Lib.hid (by rw [hval.out]; unfold fin11; rw [if_pos h4, hL1.out])
        obtain ⟨hz6, zz, zf⟩ := id Z6
        go_wp2_with fail
        have ZF := (five_loc Z6 (.int .i64 0) (.int .i64 0) (.int .i64 0) (.int .i64 0) (.int .i64 0)).2.1
        have hEnd := five_end (z := w.heap.size + 1) HB6 g6 hqw (by omega) hz6 hoff HO0.out (.int .i64 0) (.int .i64 0) (.int .i64 0) (.int .i64 0) (.int .i64 0)
        have e5 : five w6 (w.heap.size + 1) (.int .i64 0) (.int .i64 0) (.int .i64 0) (.int .i64 0) (.int .i64 0) = ((((w6.setCell ⟨w.heap.size + 1, 0, none⟩ (.int .i64 0)).setCell ⟨w.heap.size + 1, 1, none⟩ (.int .i64 0)).setCell ⟨w.heap.size + 1, 2, none⟩ (.int .i64 0)).setCell ⟨w.heap.size + 1, 3, none⟩ (.int .i64 0)).setCell ⟨w.heap.size + 1, 4, none⟩ (.int .i64 0) := rfl
        rw [← e5]
        clear e5
        generalize five w6 (w.heap.size + 1) (.int .i64 0) (.int .i64 0) (.int .i64 0) (.int .i64 0) (.int .i64 0) = WF at ZF hEnd ⊢
        refine bodyPost_ret (v := .tuple #[.bool false, .agg #[.int .i64 0, .int .i64 0, .int .i64 0, .int .i64 0, .int .i64 0], .bool true]) (by simp [results, Tryz.results89, go_sem, ZF]) rfl ?_
        rw [hr.out]
        exact ⟨rfl, hEnd⟩
      · have h4' : ¬ (ys.length : Int) ≤ 4 := by omega
        have hrl : rs.length = L1.length := len_pgs E5.out
        have CQ := l11Part_any q root m L1 a5 rs.length c5 rs w6 HB6 ⟨by omega, by omega⟩ (by have := hF1.1; omega) (fun g hg => by
          have h5 := hF1.2 g.pg (by rw [← HB6.eq]; exact List.mem_map_of_mem hg)
          have h6 : g.xs.length = g.n := (HB6.rd.2 g hg).1.1
          have h7 : g.pg.xs.length = g.xs.length := rfl
          omega)
        obtain ⟨pv, hpv⟩ : ∃ pv, partV L1 m = pv := ⟨_, rfl⟩
        rw [hpv] at CQ
        have hr : Hid (inV l x (f + 1) m = (pv.1, true, pv.2.1, pv.2.2)) := Lib.hid (by rw [hval.out]; unfold fin11; rw [if_neg h4, hL1.out, hpv])
        replace hpv := Lib.hid hpv
        replace CQ := Lib.hid CQ
        replace hrl := Lib.hid hrl
        go_wp2_with fail
        refine CQ.out.mono ?_
        rintro e w7 ⟨rfl, a7, n7, c7, ts, hb7, g7, hc7⟩
        have Z7 := Z6.grown g7 (fun k hk => by cases hk; omega)
        have hz7 := Z7.1
        obtain ⟨-, zz, zf⟩ := id Z7
        have s7 := g7.size
        have hoff7 : ∀ o : Option Nat, (∀ B, o = some B → B ≤ w.heap.size) → ∀ Z : Nat → Prop, (∀ k, Z k → k < w.heap.size) → Off w Z (fun W => Bk o W (some ⟨b, off, none⟩) n cap ps) → Off w7 (fun k => Z k ∨ k = w.heap.size + 1) (fun W => Bk o W a7 n7 c7 ts) := fun o hB Z hZ ho =>
          hc7 o (fun B e => by have := hB B e; have := g6.size; omega) _ (fun k hk => by
            rcases hk with hk | rfl
            · have := hZ k hk; have := g6.size; omega
            · exact Z6.1) (hoff o hB Z hZ ho)
        have g67 := grown_trans g6 g7
        obtain ⟨W8, hW8⟩ : ∃ W8, W8 = w7.alloc (.cells #[.int .i64 pv.2.1.id, .int .i64 pv.2.1.x0, .int .i64 pv.2.1.y0, .int .i64 pv.2.1.x1, .int .i64 pv.2.1.y1] 77) := ⟨_, rfl⟩
        go_wp2_with fail
        rw [← hW8]
        have E8 : Loc W8 w7.heap.size #[.int .i64 pv.2.1.id, .int .i64 pv.2.1.x0, .int .i64 pv.2.1.y0, .int .i64 pv.2.1.x1, .int .i64 pv.2.1.y1] := by rw [hW8]; exact Loc.new _ _ _
        have b8 : Below w7.heap.size w7 W8 := by rw [hW8]; exact new_below w7 _
        have Z8 := Z7.below b8
        have HB8 := hb7.keep b8
        have g8 := grown_trans g67 (Below.toGrown b8 (some q))
        have hoff8 : ∀ o : Option Nat, (∀ B, o = some B → B ≤ w.heap.size) → ∀ Z : Nat → Prop, (∀ k, Z k → k < w.heap.size) → Off w Z (fun W => Bk o W (some ⟨b, off, none⟩) n cap ps) → Off W8 (fun k => Z k ∨ k = w.heap.size + 1) (fun W => Bk o W a7 n7 c7 ts) := fun o hB Z hZ ho =>
          (hoff7 o hB Z hZ ho).keep b8.size (fun _ _ e => e) (fun k hk _ => b8.block k hk)
        clear hW8 zz zf
        obtain ⟨hz8, zz, zf⟩ := id Z8
        obtain ⟨he8, ee, ef⟩ := id E8
        have ee0 := ee 0
        have ee1 := ee 1
        have ee2 := ee 2
        have ee3 := ee 3
        have ee4 := ee 4
        simp at ee0 ee1 ee2 ee3 ee4
        have hze : w.heap.size + 1 ≠ w7.heap.size := by omega
        go_big_region
        have ZF := (five_loc Z8 (.int .i64 pv.2.1.id) (.int .i64 pv.2.1.x0) (.int .i64 pv.2.1.y0) (.int .i64 pv.2.1.x1) (.int .i64 pv.2.1.y1)).drew.2.1
        have hEnd := newAt_below (five_end (z := w.heap.size + 1) HB8 g8 hqw (by omega) hz8 hoff8 HO0.out (.int .i64 pv.2.1.id) (.int .i64 pv.2.1.x0) (.int .i64 pv.2.1.y0) (.int .i64 pv.2.1.x1) (.int .i64 pv.2.1.y1)) (drew_below _)
        have e5 : five W8 (w.heap.size + 1) (.int .i64 pv.2.1.id) (.int .i64 pv.2.1.x0) (.int .i64 pv.2.1.y0) (.int .i64 pv.2.1.x1) (.int .i64 pv.2.1.y1) = ((((W8.setCell ⟨w.heap.size + 1, 0, none⟩ (.int .i64 pv.2.1.id)).setCell ⟨w.heap.size + 1, 1, none⟩ (.int .i64 pv.2.1.x0)).setCell ⟨w.heap.size + 1, 2, none⟩ (.int .i64 pv.2.1.y0)).setCell ⟨w.heap.size + 1, 3, none⟩ (.int .i64 pv.2.1.x1)).setCell ⟨w.heap.size + 1, 4, none⟩ (.int .i64 pv.2.1.y1) := rfl
        rw [← e5]
        clear e5
        generalize (five W8 (w.heap.size + 1) (.int .i64 pv.2.1.id) (.int .i64 pv.2.1.x0) (.int .i64 pv.2.1.y0) (.int .i64 pv.2.1.x1) (.int .i64 pv.2.1.y1)).drew = WF at ZF hEnd ⊢
        go_wp2_with fail
        refine bodyPost_ret (v := .tuple #[.bool true, .agg #[.int .i64 pv.2.1.id, .int .i64 pv.2.1.x0, .int .i64 pv.2.1.y0, .int .i64 pv.2.1.x1, .int .i64 pv.2.1.y1], .bool pv.2.2]) (by simp [results, Tryz.results89, go_sem, ZF]) rfl ?_
        rw [hr.out]
        exact ⟨rfl, hEnd⟩
end Go.Proofs.YtfefggcfeppeiaaGreat

/- What a walk from page to page reaches: a walk with a list of what waits answers alike; what is reached is closed, and used. -/
namespace Go.Proofs.YtfefggcfeppeiaaGreat
open Go.RowKit

/-- The numbers that a page refers to. -/
def kidIds (l : List Pg) (i : Int) : List Int := (kidsP (pageAt l i)).map (fun x => x.id)
theorem fold_cong {α : Type} {P : List Int → Prop} {g h : List Int → α → List Int} : ∀ (xs : List α) (a : List Int), P a → (∀ acc x, P acc → g acc x = h acc x ∧ P (h acc x)) → xs.foldl g a = xs.foldl h a
  | [], _, _, _ => rfl
  | x :: xs, a, ha, hs => by
    rw [List.foldl_cons, List.foldl_cons, (hs a x ha).1]
    exact fold_cong xs _ (hs a x ha).2 hs
theorem walk_len (l : List Pg) (f : Nat) (i : Int) (zs : List Int) (h : OutOk l zs) : zs.length ≤ (walkV l f i zs).length := by
  obtain ⟨_, t, e⟩ := walkV_ok l f i zs h
  rw [e, List.length_append]
  omega
/-- Enough is enough. -/
theorem walk_fuel (l : List Pg) : ∀ (f g : Nat) (i : Int) (zs : List Int), OutOk l zs → l.length < f + zs.length → l.length < g + zs.length → walkV l f i zs = walkV l g i zs
  | 0, _, _, zs, h, hf, _ => by have := h.len; omega
  | _ + 1, 0, _, zs, h, _, hg => by have := h.len; omega
  | f + 1, g + 1, i, zs, h, hf, hg => by
    rw [walkV_succ, walkV_succ]
    split
    · rename_i hc
      rw [Bool.and_eq_true, Bool.not_eq_true'] at hc
      have h1 := h.snoc (used_in hc.1) hc.2
      refine fold_cong (P := fun acc => OutOk l acc ∧ zs.length + 1 ≤ acc.length) _ _ ⟨h1, by simp⟩ (fun acc x hp => ?_)
      have h2 := walk_len l g x.id acc hp.1
      exact ⟨walk_fuel l f g x.id acc hp.1 (by omega) (by omega), (walkV_ok l g x.id acc hp.1).1, by omega⟩
    · rfl
/-- A walk with enough fuel. -/
def walkW (l : List Pg) (zs : List Int) (i : Int) : List Int := walkV l (l.length + 1) i zs
theorem walkW_ok {l : List Pg} {zs : List Int} (h : OutOk l zs) (i : Int) : OutOk l (walkW l zs i) := (walkV_ok l _ i zs h).1
theorem walkW_no {l : List Pg} {zs : List Int} {i : Int} (h : ((pageAt l i).used && !(zs.contains i)) = false) : walkW l zs i = zs := by
  unfold walkW
  rw [walkV_succ, h]
  rfl
theorem walkW_yes {l : List Pg} {zs : List Int} {i : Int} (hz : OutOk l zs) (h : ((pageAt l i).used && !(zs.contains i)) = true) : walkW l zs i = (kidIds l i).foldl (walkW l) (zs ++ [i]) := by
  unfold walkW kidIds
  rw [walkV_succ, if_pos h, List.foldl_map]
  rw [Bool.and_eq_true, Bool.not_eq_true'] at h
  have h1 := hz.snoc (used_in h.1) h.2
  refine fold_cong (P := fun acc => OutOk l acc ∧ 1 ≤ acc.length) _ _ ⟨h1, by simp⟩ (fun acc x hp => ?_)
  have h2 := walk_len l (l.length + 1) x.id acc hp.1
  exact ⟨walk_fuel l _ _ x.id acc hp.1 (by omega) (by omega), (walkV_ok l _ x.id acc hp.1).1, by omega⟩
/-- What waits, the next one first; what was reached. -/
def WaitOk (l : List Pg) (root : Int) (st zs : List Int) : Prop := OutOk l zs ∧ st.foldl (walkW l) zs = reachV l root
theorem WaitOk.start (l : List Pg) (root : Int) : WaitOk l root [root] [] := ⟨⟨List.nodup_nil, fun z hz => by cases hz⟩, rfl⟩
theorem WaitOk.skip {l : List Pg} {root i : Int} {st zs : List Int} (h : WaitOk l root (i :: st) zs) (hn : ((pageAt l i).used && !(zs.contains i)) = false) : WaitOk l root st zs := by
  refine ⟨h.1, ?_⟩
  have := h.2
  rw [List.foldl_cons, walkW_no hn] at this
  exact this
theorem WaitOk.take {l : List Pg} {root i : Int} {st zs : List Int} (h : WaitOk l root (i :: st) zs) (hy : ((pageAt l i).used && !(zs.contains i)) = true) : WaitOk l root (kidIds l i ++ st) (zs ++ [i]) := by
  have h2 := h.2
  rw [List.foldl_cons, walkW_yes h.1 hy] at h2
  rw [Bool.and_eq_true, Bool.not_eq_true'] at hy
  exact ⟨h.1.snoc (used_in hy.1) hy.2, by rw [List.foldl_append]; exact h2⟩
theorem WaitOk.done {l : List Pg} {root : Int} {zs : List Int} (h : WaitOk l root [] zs) : zs = reachV l root := h.2

/-- A sum over numbers, each once, is no greater than the sum over all. -/
theorem sum_nodup : ∀ (n : Nat) (f : Int → Nat) (zs : List Int), zs.Nodup → (∀ z ∈ zs, 0 ≤ z ∧ z < (n : Int)) → (zs.map f).sum ≤ ((List.range n).map (fun k : Nat => f (k : Int))).sum
  | 0, f, [], _, _ => Nat.le_refl _
  | 0, f, z :: zs, _, h => by have := h z List.mem_cons_self; omega
  | n + 1, f, zs, h, hz => by
    have h1 := sum_nodup n f (zs.erase (n : Int)) (h.erase _) (fun z hm => by
      have h2 := hz z (List.mem_of_mem_erase hm)
      have h3 : z ≠ (n : Int) := fun e => by
        subst e
        exact absurd hm (List.Nodup.not_mem_erase h)
      omega)
    rw [List.range_succ, List.map_append, List.sum_append]
    by_cases hm : (n : Int) ∈ zs
    · have h2 := ((List.perm_cons_erase hm).map f).sum_nat
      rw [h2, List.map_cons, List.sum_cons]
      simp only [List.map_cons, List.map_nil, List.sum_cons, List.sum_nil]
      omega
    · rw [List.erase_of_not_mem hm] at h1
      simp only [List.map_cons, List.map_nil, List.sum_cons, List.sum_nil]
      omega
theorem kids_len (p : Pg) : (kidsP p).length ≤ p.xs.length := by
  unfold kidsP
  split
  · exact Nat.zero_le _
  · exact Nat.le_refl _
theorem sum_range : ∀ (l : List Pg) , ((List.range l.length).map (fun k : Nat => (kidsP (pageAt l (k : Int))).length)).sum ≤ totG l := by
  intro l
  have e : (List.range l.length).map (fun k : Nat => (kidsP (pageAt l (k : Int))).length) = l.map (fun p => (kidsP p).length) := by
    apply List.ext_getElem
    · simp
    · intro k h1 h2
      simp only [List.getElem_map, List.getElem_range]
      have h3 : k < l.length := by simpa using h1
      unfold pageAt
      rw [if_pos (by omega), Int.toNat_natCast, List.getElem?_eq_getElem h3]
      rfl
  rw [e]
  unfold totG
  clear e
  induction l with
  | nil => exact Nat.le_refl _
  | cons p l ih =>
    rw [List.map_cons, List.map_cons, List.sum_cons, List.sum_cons]
    have := kids_len p
    omega
theorem edges_le {l : List Pg} {zs : List Int} (h : OutOk l zs) : edges l zs ≤ totG l :=
  Nat.le_trans (sum_nodup l.length (fun i => (kidsP (pageAt l i)).length) zs h.1 h.2) (sum_range l)
theorem edges_snoc (l : List Pg) (zs : List Int) (i : Int) : edges l (zs ++ [i]) = edges l zs + (kidIds l i).length := by
  unfold edges kidIds
  rw [List.map_append, List.sum_append]
  simp

/-- What a walk adds. -/
structure Grew (l : List Pg) (zs r : List Int) (src : Int → Prop) : Prop where
  ok : OutOk l r
  sub : ∀ z ∈ zs, z ∈ r
  new : ∀ j ∈ r, j ∈ zs ∨ ((pageAt l j).used = true ∧ (∀ k ∈ kidIds l j, (pageAt l k).used = true → k ∈ r) ∧ (src j ∨ ∃ m ∈ r, j ∈ kidIds l m))
theorem fold_grew {l : List Pg} {f : Nat} (ih : ∀ (i : Int) (zs : List Int), OutOk l zs → l.length < f + zs.length → Grew l zs (walkV l f i zs) (fun j => j = i) ∧ ((pageAt l i).used = true → i ∈ walkV l f i zs)) :
    ∀ (ks : List Int) (zs : List Int), OutOk l zs → l.length < f + zs.length → Grew l zs (ks.foldl (fun acc k => walkV l f k acc) zs) (fun j => j ∈ ks) ∧ ∀ k ∈ ks, (pageAt l k).used = true → k ∈ ks.foldl (fun acc k => walkV l f k acc) zs
  | [], zs, h, _ => ⟨⟨h, fun _ hz => hz, fun _ hj => .inl hj⟩, fun k hk => by cases hk⟩
  | k :: ks, zs, h, hf => by
    rw [List.foldl_cons]
    obtain ⟨g, hi⟩ := ih k zs h hf
    have hl := walk_len l f k zs h
    obtain ⟨g2, hi2⟩ := fold_grew ih ks _ g.ok (by omega)
    refine ⟨⟨g2.ok, fun z hz => g2.sub z (g.sub z hz), fun j hj => ?_⟩, fun x hx hu => ?_⟩
    · rcases g2.new j hj with h1 | ⟨h1, h2, h3⟩
      · rcases g.new j h1 with h4 | ⟨h4, h5, h6⟩
        · exact .inl h4
        · refine .inr ⟨h4, fun x hx hu => g2.sub x (h5 x hx hu), ?_⟩
          rcases h6 with rfl | ⟨m, hm, h7⟩
          · exact .inl List.mem_cons_self
          · exact .inr ⟨m, g2.sub m hm, h7⟩
      · refine .inr ⟨h1, h2, ?_⟩
        rcases h3 with h3 | h3
        · exact .inl (List.mem_cons_of_mem _ h3)
        · exact .inr h3
    · rcases List.mem_cons.1 hx with rfl | hx
      · exact g2.sub _ (hi hu)
      · exact hi2 x hx hu
theorem walk_grew (l : List Pg) : ∀ (f : Nat) (i : Int) (zs : List Int), OutOk l zs → l.length < f + zs.length → Grew l zs (walkV l f i zs) (fun j => j = i) ∧ ((pageAt l i).used = true → i ∈ walkV l f i zs)
  | 0, _, zs, h, hf => by have := h.len; omega
  | f + 1, i, zs, h, hf => by
    rw [walkV_succ]
    split
    · rename_i hc
      rw [Bool.and_eq_true, Bool.not_eq_true'] at hc
      have h1 := h.snoc (used_in hc.1) hc.2
      obtain ⟨g, hk⟩ := fold_grew (walk_grew l f) (kidIds l i) (zs ++ [i]) h1 (by rw [List.length_append, List.length_singleton]; omega)
      have e : (kidIds l i).foldl (fun acc k => walkV l f k acc) (zs ++ [i]) = (kidsP (pageAt l i)).foldl (fun acc x => walkV l f x.id acc) (zs ++ [i]) := by
        unfold kidIds
        rw [List.foldl_map]
      rw [e] at g hk
      have hi := g.sub i (List.mem_append_right _ (List.mem_singleton.2 rfl))
      refine ⟨⟨g.ok, fun z hz => g.sub z (List.mem_append_left _ hz), fun j hj => ?_⟩, fun _ => hi⟩
      rcases g.new j hj with h2 | ⟨h2, h3, h4⟩
      · rcases List.mem_append.1 h2 with h5 | h5
        · exact .inl h5
        · obtain rfl := List.mem_singleton.1 h5
          exact .inr ⟨hc.1, hk, .inl rfl⟩
      · refine .inr ⟨h2, h3, .inr ?_⟩
        rcases h4 with h4 | h4
        · exact ⟨i, hi, h4⟩
        · exact h4
    · rename_i hc
      refine ⟨⟨h, fun _ hz => hz, fun _ hj => .inl hj⟩, fun hu => ?_⟩
      rw [hu, Bool.true_and, Bool.not_eq_true, Bool.not_eq_false'] at hc
      exact List.contains_iff_mem.1 hc
theorem outOk_nil (l : List Pg) : OutOk l [] := ⟨List.nodup_nil, fun z hz => by cases hz⟩
theorem reach_ok (l : List Pg) (root : Int) : OutOk l (reachV l root) := (walkV_ok l _ root [] (outOk_nil l)).1
theorem reach_grew (l : List Pg) (root : Int) : Grew l [] (reachV l root) (fun j => j = root) ∧ ((pageAt l root).used = true → root ∈ reachV l root) := walk_grew l (l.length + 1) root [] (outOk_nil l) (by simp)
theorem reach_used {l : List Pg} {root j : Int} (h : j ∈ reachV l root) : (pageAt l j).used = true := by
  rcases (reach_grew l root).1.new j h with h1 | h1
  · cases h1
  · exact h1.1
theorem reach_closed {l : List Pg} {root j k : Int} (h : j ∈ reachV l root) (hk : k ∈ kidIds l j) (hu : (pageAt l k).used = true) : k ∈ reachV l root := by
  rcases (reach_grew l root).1.new j h with h1 | h1
  · cases h1
  · exact h1.2.1 k hk hu
theorem reach_from {l : List Pg} {root j : Int} (h : j ∈ reachV l root) : j = root ∨ ∃ m ∈ reachV l root, j ∈ kidIds l m := by
  rcases (reach_grew l root).1.new j h with h1 | h1
  · cases h1
  · exact h1.2.2
theorem reach_none {l : List Pg} {root : Int} (h : (pageAt l root).used = false) : reachV l root = [] := by
  unfold reachV
  rw [walkV_succ, h]
  rfl

theorem nodup_of_len : ∀ (r s : List Int), r.Nodup → (∀ x ∈ r, x ∈ s) → s.length ≤ r.length → s.Nodup ∧ ∀ x ∈ s, x ∈ r
  | [], s, _, _, h => by
    obtain rfl := List.length_eq_zero_iff.1 (Nat.le_zero.1 h)
    exact ⟨List.nodup_nil, fun x hx => hx⟩
  | x :: r, s, h, hs, hl => by
    rw [List.nodup_cons] at h
    have hx := hs x List.mem_cons_self
    have hp := List.perm_cons_erase hx
    have hl2 := hp.length_eq
    rw [List.length_cons] at hl2 hl
    obtain ⟨h1, h2⟩ := nodup_of_len r (s.erase x) h.2 (fun y hy => (List.mem_erase_of_ne (fun e => h.1 (by rw [← e]; exact hy))).2 (hs y (List.mem_cons_of_mem _ hy))) (by omega)
    refine ⟨hp.nodup_iff.2 (List.nodup_cons.2 ⟨fun hm => h.1 (h2 x hm), h1⟩), fun y hy => ?_⟩
    rcases List.mem_cons.1 (hp.mem_iff.1 hy) with rfl | hy
    · exact List.mem_cons_self
    · exact List.mem_cons_of_mem _ (h2 y hy)
theorem len_of_nodup : ∀ (r s : List Int), r.Nodup → (∀ x ∈ r, x ∈ s) → r.length ≤ s.length
  | [], _, _, _ => Nat.zero_le _
  | x :: r, s, h, hs => by
    rw [List.nodup_cons] at h
    have hx := hs x List.mem_cons_self
    have hl2 := (List.perm_cons_erase hx).length_eq
    rw [List.length_cons] at hl2 ⊢
    have := len_of_nodup r (s.erase x) h.2 (fun y hy => (List.mem_erase_of_ne (fun e => h.1 (by rw [← e]; exact hy))).2 (hs y (List.mem_cons_of_mem _ hy)))
    omega

/-- All numbers that the reachable pages refer to, in order. -/
def allKids (l : List Pg) (r : List Int) : List Int := r.flatMap (kidIds l)
theorem allKids_len (l : List Pg) (r : List Int) : (allKids l r).length = edges l r := by
  unfold allKids edges
  rw [List.length_flatMap]
  congr 1
  refine List.map_congr_left fun i _ => ?_
  unfold kidIds
  rw [List.length_map]
/-- No page is referred to twice, nor the root once; all are used. -/
def refsOk (l : List Pg) (root : Int) : Bool := decide ((root :: allKids l (reachV l root)).Nodup) && (allKids l (reachV l root)).all (fun k => (pageAt l k).used)
theorem mem_allKids {l : List Pg} {r : List Int} {k : Int} : k ∈ allKids l r ↔ ∃ i ∈ r, k ∈ kidIds l i := List.mem_flatMap
theorem kidsOk_iff {l : List Pg} {root : Int} : (reachV l root).all (kidsOk l (reachV l root) root) = true ↔ ∀ k ∈ allKids l (reachV l root), k ∈ reachV l root ∧ k ≠ root := by
  rw [List.all_eq_true]
  constructor
  · intro h k hk
    obtain ⟨i, hi, hk⟩ := mem_allKids.1 hk
    have h1 := h i hi
    unfold kidsOk at h1
    rw [List.all_eq_true] at h1
    obtain ⟨x, hx, rfl⟩ := List.mem_map.1 hk
    have h2 := h1 x hx
    unfold kidOk at h2
    rw [Bool.and_eq_true, List.contains_iff_mem, decide_eq_true_eq] at h2
    exact h2
  · intro h i hi
    unfold kidsOk
    rw [List.all_eq_true]
    intro x hx
    unfold kidOk
    rw [Bool.and_eq_true, List.contains_iff_mem, decide_eq_true_eq]
    exact h x.id (mem_allKids.2 ⟨i, hi, List.mem_map_of_mem hx⟩)
/-- Validity, said in the other way. -/
theorem bookOk_refs (l : List Pg) (root : Int) : bookOkV l root = (decide (l.length ≤ 48) && ((pageAt l root).used && (l.all pgOk && refsOk l root))) := by
  unfold bookOkV
  by_cases hu : (pageAt l root).used = true
  · have hr := (reach_grew l root).2 hu
    have hin := used_in hu
    have hne : (reachV l root).isEmpty = false := by
      cases e : reachV l root with
      | nil => rw [e] at hr; cases hr
      | cons => rfl
    rw [hu, hne]
    have hlen : decide (1 ≤ l.length ∧ l.length ≤ 48) = decide (l.length ≤ 48) := by
      congr 1
      apply propext
      constructor
      · exact fun h => h.2
      · intro h
        exact ⟨by omega, h⟩
    rw [hlen]
    simp only [Bool.not_false, Bool.true_and]
    congr 2
    have hsub : ∀ x ∈ reachV l root, x ∈ root :: allKids l (reachV l root) := fun x hx => by
      rcases reach_from hx with rfl | ⟨m, hm, h2⟩
      · exact List.mem_cons_self
      · exact List.mem_cons_of_mem _ (mem_allKids.2 ⟨m, hm, h2⟩)
    have hn := (reach_ok l root).1
    have hl1 := len_of_nodup _ _ hn hsub
    rw [List.length_cons, allKids_len] at hl1
    rw [Bool.eq_iff_iff]
    unfold refsOk
    rw [Bool.and_eq_true, Bool.and_eq_true, kidsOk_iff, decide_eq_true_eq, decide_eq_true_eq, List.all_eq_true]
    constructor
    · rintro ⟨h1, h2⟩
      refine ⟨(nodup_of_len _ _ hn hsub (by rw [List.length_cons, allKids_len]; omega)).1, fun k hk => reach_used (h1 k hk).1⟩
    · rintro ⟨h1, h2⟩
      have h3 : ∀ k ∈ allKids l (reachV l root), k ∈ reachV l root := fun k hk => by
        obtain ⟨i, hi, h4⟩ := mem_allKids.1 hk
        exact reach_closed hi h4 (h2 k hk)
      refine ⟨fun k hk => ⟨h3 k hk, fun e => ?_⟩, ?_⟩
      · subst e
        exact (List.nodup_cons.1 h1).1 hk
      · have h4 := len_of_nodup _ (reachV l root) h1 (fun x hx => by
          rcases List.mem_cons.1 hx with rfl | hx
          · exact hr
          · exact h3 x hx)
        rw [List.length_cons, allKids_len] at h4
        omega
  · rw [Bool.not_eq_true] at hu
    rw [hu, reach_none hu]
    simp
end Go.Proofs.YtfefggcfeppeiaaGreat

/- What the model's l11In keeps: numbers; that one can come down in a right book. -/
namespace Go.Proofs.YtfefggcfeppeiaaGreat
open Go.RowKit

theorem WfL.put {l : List Pg} (h : WfL l) (i : Int) {p : Pg} (hp : ∀ x ∈ p.xs, (Lit.int .i64 x.id).wf = true) : WfL (putV l i p) := by
  unfold putV
  split
  · intro q hq
    rcases List.mem_or_eq_of_mem_set hq with h1 | h1
    · exact h q h1
    · rw [h1]; exact hp
  · exact h
theorem WfL.alloc {l : List Pg} (h : WfL l) : WfL (allocV l).1 := by
  unfold allocV
  split
  · intro q hq
    rcases List.mem_or_eq_of_mem_set hq with h1 | h1
    · exact h q h1
    · rw [h1]; exact fun x hx => by cases hx
  · split
    · exact h
    · intro q hq
      rcases List.mem_append.1 hq with h1 | h1
      · exact h q h1
      · rw [List.mem_singleton.1 h1]; exact fun x hx => by cases hx
theorem WfL.at_ {l : List Pg} (h : WfL l) (i : Int) : ∀ x ∈ (pageAt l i).xs, (Lit.int .i64 x.id).wf = true := by
  unfold pageAt
  split
  · cases hq : l[i.toNat]? with
    | none => exact fun x hx => by cases hx
    | some q => exact h q (List.mem_of_getElem? hq)
  · exact fun x hx => by cases hx
theorem wf_zeroIt : (Lit.int .i64 zeroIt.id).wf = true := by decide
theorem WfL.part {l : List Pg} (h : WfL l) (hl : l.length ≤ 100000) (i : Int) : WfL (partV l i).1 ∧ (Lit.int .i64 (partV l i).2.1.id).wf = true := by
  unfold partV
  split
  · exact ⟨h, wf_zeroIt⟩
  · rename_i hn
    obtain ⟨h1, h2⟩ := partedV_all (P := fun x => (Lit.int .i64 x.id).wf = true) wf_zeroIt (h.at_ i)
    have h3 := allocV_idx l
    exact ⟨(h.alloc.put i h1).put _ h2, wf_small _ (by show -1000000 ≤ (allocV l).2; omega) (by show (allocV l).2 ≤ 1000000; omega)⟩
theorem WfL.fin {l : List Pg} (h : WfL l) (hl : l.length ≤ 100000) (i : Int) (lf : Bool) {ys : List It} (hy : ∀ x ∈ ys, (Lit.int .i64 x.id).wf = true) : WfL (fin11 l i lf ys).1 ∧ (Lit.int .i64 (fin11 l i lf ys).2.2.1.id).wf = true := by
  have h1 : WfL (putV l i ⟨true, lf, ys⟩) := h.put i hy
  unfold fin11
  split
  · exact ⟨h1, wf_zeroIt⟩
  · exact h1.part (by rw [(putV_le _ _ _).1]; exact hl) i
theorem wf_up {xs : List It} (x : It) {r : List Pg × Bool × It × Bool} (h : ∀ y ∈ xs, (Lit.int .i64 y.id).wf = true) (hr : (Lit.int .i64 r.2.2.1.id).wf = true) : ∀ y ∈ upV xs x r, (Lit.int .i64 y.id).wf = true := by
  unfold upV
  intro y hy
  rcases List.mem_append.1 hy with h1 | h1
  · rcases List.mem_or_eq_of_mem_set h1 with h2 | h2
    · exact h y h2
    · rw [h2]
      show (Lit.int .i64 (kidV xs x)).wf = true
      unfold kidV
      rw [List.getD_eq_getElem?_getD]
      cases e : xs[(chooseV xs (boxOf x)).toNat]? with
      | none => exact wf_zeroIt
      | some z => exact h z (List.mem_of_getElem? e)
  · split at h1
    · rw [List.mem_singleton.1 h1]
      exact hr
    · cases h1
theorem WfL.ins {l : List Pg} (h : WfL l) {x : It} (hx : (Lit.int .i64 x.id).wf = true) {N B : Nat} (hF : Fits N B l) (hN : N ≤ 90000) : ∀ (f : Nat) (i : Int), f ≤ 100 → WfL (inV l x f i).1 ∧ (Lit.int .i64 (inV l x f i).2.2.1.id).wf = true
  | 0, _, _ => ⟨h, wf_zeroIt⟩
  | f + 1, i, hf => by
    have ih := h.ins hx hF hN f (kidV (pageAt l i).xs x) (by omega)
    have h2 := (hF.ins x f (kidV (pageAt l i).xs x)).1
    have h3 := hF.1
    rw [inV]
    split
    · refine h.fin (by omega) i true (fun y hy => ?_)
      rcases List.mem_append.1 hy with h4 | h4
      · exact h.at_ i y h4
      · rw [List.mem_singleton.1 h4]
        exact hx
    · split
      · exact ih.1.fin (by omega) i false (wf_up x (h.at_ i) ih.2)
      · exact ⟨ih.1, wf_zeroIt⟩

theorem pageAt_mem {l : List Pg} {i : Int} (h : 0 ≤ i ∧ i < (l.length : Int)) : pageAt l i ∈ l := by
  unfold pageAt
  rw [if_pos h.1]
  have : i.toNat < l.length := by omega
  rw [List.getElem?_eq_getElem this]
  exact List.getElem_mem this
/-- In a right book one comes down from each page that is reached. -/
theorem down_of_ok {l : List Pg} {root : Int} (h : bookOkV l root = true) : ∀ (f : Nat) (i : Int), i ∈ reachV l root → Down l f i
  | 0, i, hi => used_in (reach_used hi)
  | f + 1, i, hi => by
    have hu := reach_used hi
    have hin := used_in hu
    refine ⟨hin, fun hlf => ?_⟩
    have hk := h
    unfold bookOkV at hk
    simp only [Bool.and_eq_true] at hk
    obtain ⟨-, -, h1, h2, -⟩ := hk
    have hp := (List.all_eq_true.1 h1) _ (pageAt_mem hin)
    unfold pgOk at hp
    rw [if_pos hu, hlf] at hp
    unfold nodeOkV at hp
    simp only [Bool.and_eq_true, Bool.false_or, decide_eq_true_eq] at hp
    refine ⟨fun e => ?_, fun x hx => ?_⟩
    · rw [e] at hp
      exact absurd hp.2.2 (by simp)
    · have h3 := kidsOk_iff.1 h2 x.id (mem_allKids.2 ⟨i, hi, ?_⟩)
      · exact down_of_ok h f x.id h3.1
      · unfold kidIds kidsP
        rw [hlf]
        exact List.mem_map_of_mem hx
end Go.Proofs.YtfefggcfeppeiaaGreat

/- The model's Insert. -/
namespace Go.Proofs.YtfefggcfeppeiaaGreat
open Go.RowKit

/-- The old root's entry in a new root. -/
def oldE (l : List Pg) (root : Int) : It := ⟨root, (boxesV (pageAt l root).xs).x0, (boxesV (pageAt l root).xs).y0, (boxesV (pageAt l root).xs).x1, (boxesV (pageAt l root).xs).y1⟩
/-- Insert: the root, the pages, the code. -/
def insV (l : List Pg) (root : Int) (x : It) : Int × List Pg × Int :=
  if bookOkV l root && itOk x.id x.x0 x.y0 x.x1 x.y1 then
    if (findV l root x.id).2 then (root, l, 2)
    else if 40 ≤ (allV l root).length then (root, l, 3)
    else if (inV l x 12 root).2.2.2 then
      if (inV l x 12 root).2.1 then
        if (allocV (inV l x 12 root).1).2 < 0 then (root, l, 3)
        else ((allocV (inV l x 12 root).1).2, putV (allocV (inV l x 12 root).1).1 (allocV (inV l x 12 root).1).2 ⟨true, false, [oldE (inV l x 12 root).1 root, (inV l x 12 root).2.2.1]⟩, 0)
      else (root, (inV l x 12 root).1, 0)
    else (root, l, 3)
  else (root, l, 1)
def RetIns (o : Int × List Pg × Int) (w : World) : Ending → World → Prop := NewBookI o.1 (o.2.1, o.2.2) w

/-- A new entry lies in the block g. -/
def EntIn (w : World) (cs : Array Value) (g : Nat) (V : World) : Prop := Loc V g cs ∧ Below w.heap.size w V ∧ w.heap.size ≤ g
theorem entIn_new {w wc : World} {cs : Array Value} (B : Below w.heap.size w wc) : EntIn w cs wc.heap.size (wc.alloc (.cells cs 77)) := ⟨Loc.new wc cs _, B.alloc B.size _, B.size⟩
theorem entIn_old {w wc : World} {g : Nat} {z0 z1 z2 z3 z4 u0 u1 u2 u3 u4 : Value} (B : Below w.heap.size w wc) (hg : w.heap.size ≤ g) (hs : g < wc.heap.size) (K : (∀ o, wc.cell? ⟨g, o, none⟩ = (#[z0, z1, z2, z3, z4] : Array Value)[o]?) ∧ ∀ o, wc.frozen? ⟨g, o, none⟩ = false) :
    EntIn w #[u0, u1, u2, u3, u4] g (((((wc.setCell ⟨g, 0, none⟩ u0).setCell ⟨g, 1, none⟩ u1).setCell ⟨g, 2, none⟩ u2).setCell ⟨g, 3, none⟩ u3).setCell ⟨g, 4, none⟩ u4) :=
  ⟨five_loc ⟨hs, K.1, K.2⟩ u0 u1 u2 u3 u4, ((((B.setCell (p := ⟨g, 0, none⟩) hg _).setCell (p := ⟨g, 1, none⟩) hg _).setCell (p := ⟨g, 2, none⟩) hg _).setCell (p := ⟨g, 3, none⟩) hg _).setCell (p := ⟨g, 4, none⟩) hg _, hg⟩
theorem ent_st {w wc : World} {g : Nat} {u0 u1 u2 u3 u4 : Value} (B : Below w.heap.size w wc) (hg : w.heap.size ≤ g) : Below w.heap.size w (((((wc.setCell ⟨g, 0, none⟩ u0).setCell ⟨g, 1, none⟩ u1).setCell ⟨g, 2, none⟩ u2).setCell ⟨g, 3, none⟩ u3).setCell ⟨g, 4, none⟩ u4) :=
  ((((B.setCell (p := ⟨g, 0, none⟩) hg _).setCell (p := ⟨g, 1, none⟩) hg _).setCell (p := ⟨g, 2, none⟩) hg _).setCell (p := ⟨g, 3, none⟩) hg _).setCell (p := ⟨g, 4, none⟩) hg _

set_option maxRecDepth 100000 in
set_option maxHeartbeats 6400000 in
theorem sInsert_any (root : Int) (x : It) (a : Option Addr) (n cap : Nat) (ps : List PgV) (w : World) (h : RdP w a n cap ps) (N B : Nat) (hF : Fits N B (ps.map PgV.pg)) (hN : N + 12 ≤ 1000) (hB : B + 48 ≤ 1048000) :
    Calls Tryz.prog 74 #[.agg #[.int .i64 root, .slice a n cap], .agg #[.int .i64 x.id, .int .i64 x.x0, .int .i64 x.y0, .int .i64 x.x1, .int .i64 x.y1]] w (RetIns (insV (ps.map PgV.pg) root x) w) := by
  have hll : (ps.map PgV.pg).length = n := by rw [List.length_map]; exact h.1.1.1
  have hn : n ≤ 1000 := by have := hF.1; omega
  have hpn : ∀ p ∈ ps, p.n ≤ B := fun p hp => by
    have h1 := hF.2 p.pg (List.mem_map_of_mem hp)
    have h2 : p.xs.length = p.n := (h.2 p hp).1.1
    have h3 : p.pg.xs.length = p.xs.length := rfl
    omega
  have HL := Lib.hid h.1.1.1
  obtain ⟨W0, hW0⟩ : ∃ W0, W0 = (((w.alloc (.cells #[.int .i64 root, .slice a n cap] 26)).alloc (.cells #[.int .i64 x.id, .int .i64 x.x0, .int .i64 x.y0, .int .i64 x.x1, .int .i64 x.y1] 47)).alloc (.cells #[.int .i64 0, .slice none 0 0] 26)) := ⟨_, rfl⟩
  have hs0 : W0.heap.size = w.heap.size + 1 + 1 + 1 := by subst hW0; simp
  have B0 : Below w.heap.size w W0 := by subst hW0; exact ((((Below.refl _ _).alloc (Nat.le_refl _) _).alloc (by simp) _).alloc (by simp; omega) _)
  have KA : Loc W0 (w.heap.size) #[.int .i64 root, .slice a n cap] := by subst hW0; exact ((Loc.new w _ _).alloc _).alloc _
  have KX : Loc W0 (w.heap.size + 1) #[.int .i64 x.id, .int .i64 x.x0, .int .i64 x.y0, .int .i64 x.x1, .int .i64 x.y1] := by
    subst hW0
    have := (Loc.new (w.alloc (.cells #[.int .i64 root, .slice a n cap] 26)) #[.int .i64 x.id, .int .i64 x.x0, .int .i64 x.y0, .int .i64 x.x1, .int .i64 x.y1] 47).alloc (.cells #[.int .i64 0, .slice none 0 0] 26)
    rw [show (w.alloc (.cells #[.int .i64 root, .slice a n cap] 26)).heap.size = w.heap.size + 1 by simp] at this
    exact this
  have KR : Loc W0 (w.heap.size + 1 + 1) #[.int .i64 0, .slice none 0 0] := by
    subst hW0
    have := Loc.new ((w.alloc (.cells #[.int .i64 root, .slice a n cap] 26)).alloc (.cells #[.int .i64 x.id, .int .i64 x.x0, .int .i64 x.y0, .int .i64 x.x1, .int .i64 x.y1] 47)) #[.int .i64 0, .slice none 0 0] 26
    rw [show ((w.alloc (.cells #[.int .i64 root, .slice a n cap] 26)).alloc (.cells #[.int .i64 x.id, .int .i64 x.x0, .int .i64 x.y0, .int .i64 x.x1, .int .i64 x.y1] 47)).heap.size = w.heap.size + 1 + 1 by simp] at this
    exact this
  have HR := Lib.hid (fun (V : World) (b : Below w.heap.size w V) => h.below b)
  have C1 := Lib.hid (l7Copy_any root a n cap ps W0 (h.below B0) (by omega) (fun p hp => by have := hpn p hp; omega))
  have CK := Lib.hid (fun (V : World) (b : Below w.heap.size w V) => sBookOk_any root a n cap ps V (h.below b) (by omega) (fun p hp => by have := hpn p hp; omega))
  have CF := Lib.hid (fun (V : World) (b : Below w.heap.size w V) => sFind_any root x.id a n cap ps V (h.below b) (by omega) (fun p hp => by have := hpn p hp; omega))
  have CA := Lib.hid (fun (V : World) (b : Below w.heap.size w V) => sAll_any root a n cap ps V (h.below b) (by omega) (fun p hp => by have := hpn p hp; omega))
  have C7 := Lib.hid (fun (V : World) (b : Below w.heap.size w V) => l7Copy_any root a n cap ps V (h.below b) (by omega) (fun p hp => by have := hpn p hp; omega))
  have hbk : bookOkV (ps.map PgV.pg) root = true → Down (ps.map PgV.pg) 12 root ∧ 0 ≤ root ∧ root < (n : Int) := fun hk => by
    have hm : root ∈ reachV (ps.map PgV.pg) root := by
      rw [bookOk_refs] at hk
      simp only [Bool.and_eq_true] at hk
      exact (reach_grew _ _).2 hk.2.1
    have h1 := used_in (reach_used hm)
    rw [hll] at h1
    exact ⟨down_of_ok hk 12 root hm, h1⟩
  replace hbk := Lib.hid hbk
  replace KA := Lib.hid KA
  replace KX := Lib.hid KX
  replace KR := Lib.hid KR
  replace B0 := Lib.hid B0
  replace hpn := Lib.hid hpn
  replace hll := Lib.hid hll
  have HFF := Lib.hid hF
  obtain ⟨-, ka, -⟩ := KA.out
  have ka0 := ka 0
  have ka1 := ka 1
  simp at ka0 ka1
  clear h hF ka
  go_enter Tryz.func74, Tryz.ntmps74
  go_wp2_with fail
  rw [← hW0]
  clear hW0
  refine C1.out.mono ?_
  rintro e w3 ⟨v3, qs, rfl, hq, ho, hb⟩
  obtain ⟨va, vc, rfl⟩ := ho.shape
  have hql := len_pg hq
  rw [HL.out] at hql
  rw [hql]
  rw [hql] at ho
  have s3 := hb.size
  obtain ⟨W4, hW4⟩ : ∃ W4, W4 = w3.alloc (.cells #[.int .i64 root, .slice va n vc] 26) := ⟨_, rfl⟩
  have hs4 : W4.heap.size = w3.heap.size + 1 := by subst hW4; simp
  have b34 : Below w3.heap.size w3 W4 := by subst hW4; exact new_below _ _
  have KG : Hid (Loc W4 w3.heap.size #[.int .i64 root, .slice va n vc]) := by subst hW4; exact Lib.hid (Loc.new w3 _ _)
  have TG : Hid (TagT 26 W4 w3.heap.size) := by subst hW4; exact Lib.hid (TagT.new _ w3 _)
  have KA4 := Lib.hid ((KA.out.below hb).below b34)
  have KX4 := Lib.hid ((KX.out.below hb).below b34)
  have KR4 := Lib.hid ((KR.out.below hb).below b34)
  have HO := Lib.hid (ho.below b34)
  have HQ := Lib.hid hq
  have hB4 : Below w.heap.size w W4 := (B0.out.trans (hb.mono (by omega))).trans (b34.mono (show w.heap.size ≤ w3.heap.size by omega))
  have hB4h := Lib.hid hB4
  have hs1 : w.heap.size + 1 + 1 < W0.heap.size := by omega
  have hs34 : W0.heap.size ≤ w3.heap.size := s3
  replace hs0 := Lib.hid hs0
  replace hql := Lib.hid hql
  replace hs4 := Lib.hid hs4
  clear ho hq hb b34 C1 KA KX KR B0 ka0 ka1
  go_upto_region 2 with (fail)
  rw [← hW4]
  clear hW4
  obtain ⟨-, ka, -⟩ := KA4.out
  have ka0 := ka 0
  have ka1 := ka 1
  simp at ka0 ka1
  have CKW := CK.out W4 hB4
  clear ka
  cases hbo : bookOkV (ps.map PgV.pg) root with
  | false =>
    rw [hbo] at CKW
    have hv : Hid (insV (ps.map PgV.pg) root x = (root, (ps.map PgV.pg), 1)) := by
      show _ = _
      unfold insV
      rw [hbo]
      rfl
    replace CKW := Lib.hid CKW
    clear hbo hB4
    go_wp2_with fail
    refine CKW.out.mono ?_
    rintro e w5 ⟨rfl, b5⟩
    have s5 := b5.size
    have KG5 := (KG.out.below b5).2.1
    obtain ⟨hRl, r0, fr⟩ := KR4.out.below b5
    have HO5 := Lib.hid (HO.out.below b5)
    have HB5 := Lib.hid (hB4h.out.trans (b5.mono hB4h.out.size))
    have hRG : w.heap.size + 1 + 1 ≠ w3.heap.size := by omega
    clear b5
    go_wp2_with fail
    refine bodyPost_ret (v := .tuple #[.agg #[.int .i64 root, .slice va n vc], .int .i64 1]) (by simp [results, Tryz.results74, go_sem, r0]) rfl ?_
    rw [hv.out]
    exact bookI_end HO5.out HQ.out rfl HB5.out (by omega) (by omega) (by omega)
  | true =>
    rw [hbo] at CKW
    replace CKW := Lib.hid CKW
    obtain ⟨-, kx, -⟩ := KX4.out
    go_wp2_with fail
    refine CKW.out.mono ?_
    rintro e w5 ⟨rfl, b5⟩
    have s5 := b5.size
    have KG5 := Lib.hid (KG.out.below b5)
    have TG5 := Lib.hid (TG.out.of (b5.block _ KG.out.1))
    have KA5 := Lib.hid (KA4.out.below b5)
    have KX5 := Lib.hid (KX4.out.below b5)
    have KR5 := Lib.hid (KR4.out.below b5)
    have HO5 := Lib.hid (HO.out.below b5)
    have HB5 := Lib.hid (hB4h.out.trans (b5.mono hB4h.out.size))
    have hRG : w.heap.size + 1 + 1 ≠ w3.heap.size := by omega
    clear b5 KG TG KA4 KX4 KR4 HO hB4h kx ka0 ka1 hB4 CKW CK
    obtain ⟨-, kx, -⟩ := KX5.out
    have kx0 := kx 0
    have kx1 := kx 1
    have kx2 := kx 2
    have kx3 := kx 3
    have kx4 := kx 4
    simp at kx0 kx1 kx2 kx3 kx4
    clear kx
    have CI := sItemOk_any x.id x.x0 x.y0 x.x1 x.y1 w5
    cases hio : itOk x.id x.x0 x.y0 x.x1 x.y1 with
    | false =>
      rw [hio] at CI
      have hv : Hid (insV (ps.map PgV.pg) root x = (root, (ps.map PgV.pg), 1)) := by
        show _ = _
        unfold insV
        rw [hbo, hio]
        rfl
      replace CI := Lib.hid CI
      clear hbo hio
      go_wp2_with fail
      refine CI.out.mono ?_
      rintro e w6 ⟨rfl, b6⟩
      have s6 := b6.size
      have KG6 := (KG5.out.below b6).2.1
      obtain ⟨hRl, r0, fr⟩ := KR5.out.below b6
      have HO6 := Lib.hid (HO5.out.below b6)
      have HB6 := Lib.hid (HB5.out.trans (b6.mono HB5.out.size))
      clear b6
      go_wp2_with fail
      refine bodyPost_ret (v := .tuple #[.agg #[.int .i64 root, .slice va n vc], .int .i64 1]) (by simp [results, Tryz.results74, go_sem, r0]) rfl ?_
      rw [hv.out]
      exact bookI_end HO6.out HQ.out rfl HB6.out (by omega) (by omega) (by omega)
    | true =>
      rw [hio] at CI
      have hgo : Hid ((bookOkV (ps.map PgV.pg) root && itOk x.id x.x0 x.y0 x.x1 x.y1) = true) := by
        show _ = _
        rw [hbo, hio]
        rfl
      obtain ⟨hdn, hr0, hrn⟩ := hbk.out hbo
      replace hdn := Lib.hid hdn
      replace CI := Lib.hid CI
      clear hbo hio hbk
      go_wp2_with fail
      refine CI.out.mono ?_
      rintro e w6 ⟨rfl, b6⟩
      have s6 := b6.size
      have KG6 := Lib.hid (KG5.out.below b6)
      have TG6 := Lib.hid (TG5.out.of (b6.block _ KG5.out.1))
      have KA6 := Lib.hid (KA5.out.below b6)
      have KX6 := Lib.hid (KX5.out.below b6)
      have KR6 := Lib.hid (KR5.out.below b6)
      have HO6 := Lib.hid (HO5.out.below b6)
      have HB6 := Lib.hid (HB5.out.trans (b6.mono HB5.out.size))
      clear b6 KG5 TG5 KA5 KX5 KR5 HO5 HB5 kx0 kx1 kx2 kx3 kx4 CI
      obtain ⟨-, ka, -⟩ := KA6.out
      have ka0 := ka 0
      have ka1 := ka 1
      simp at ka0 ka1
      obtain ⟨-, kx, -⟩ := KX6.out
      have kx0 := kx 0
      simp at kx0
      clear ka kx
      have CFW := Lib.hid (CF.out w6 HB6.out)
      obtain ⟨fo, hfo⟩ : ∃ fo, findV (ps.map PgV.pg) root x.id = fo := ⟨_, rfl⟩
      rw [hfo] at CFW
      replace hfo := Lib.hid hfo
      obtain ⟨fb, ff⟩ := fo
      clear CF
      go_wp2_with fail
      refine CFW.out.mono ?_
      rintro e w7 ⟨rfl, b7⟩
      obtain ⟨W8, hW8⟩ : ∃ W8, W8 = w7.alloc (.cells #[.int .i64 fb.x0, .int .i64 fb.y0, .int .i64 fb.x1, .int .i64 fb.y1] 28) := ⟨_, rfl⟩
      have b8 : Below w6.heap.size w6 W8 := by subst hW8; exact b7.trans ((new_below _ _).mono b7.size)
      have s8 := b8.size
      have KG8 := Lib.hid (KG6.out.below b8)
      have TG8 := Lib.hid (TG6.out.of (b8.block _ KG6.out.1))
      have KA8 := Lib.hid (KA6.out.below b8)
      have KX8 := Lib.hid (KX6.out.below b8)
      have KR8 := Lib.hid (KR6.out.below b8)
      have HO8 := Lib.hid (HO6.out.below b8)
      have HB8 := Lib.hid (HB6.out.trans (b8.mono HB6.out.size))
      clear b7 b8 KG6 TG6 KA6 KX6 KR6 HO6 HB6 ka0 ka1 kx0 CFW
      cases ff with
      | true =>
        have hv : Hid (insV (ps.map PgV.pg) root x = (root, (ps.map PgV.pg), 2)) := by
          show _ = _
          unfold insV
          rw [if_pos hgo.out, hfo.out]
          rfl
        obtain ⟨-, g0, -⟩ := KG8.out
        obtain ⟨hRl, r0, fr⟩ := KR8.out
        go_upto_region 5 with (fail)
        rw [← hW8]
        clear hW8
        go_wp2_with fail
        refine bodyPost_ret (v := .tuple #[.agg #[.int .i64 root, .slice va n vc], .int .i64 2]) (by simp [results, Tryz.results74, go_sem, r0]) rfl ?_
        rw [hv.out]
        exact bookI_end HO8.out HQ.out rfl HB8.out (by omega) (by omega) (by omega)
      | false =>
        obtain ⟨-, ka, -⟩ := KA8.out
        have ka0 := ka 0
        have ka1 := ka 1
        simp at ka0 ka1
        clear ka
        have CAW := Lib.hid (CA.out W8 HB8.out)
        clear CA
        go_upto_region 7 with (fail)
        rw [← hW8]
        clear hW8
        go_wp2_with fail
        refine CAW.out.mono ?_
        rintro e w9 ⟨v9, rfl, o9, b9⟩
        obtain ⟨a9, c9, rfl, -⟩ := o9.rd
        obtain ⟨na, hna⟩ : ∃ na, na = (allV (ps.map PgV.pg) root).length := ⟨_, rfl⟩
        rw [← hna]
        have s9 := b9.size
        have KG9 := Lib.hid (KG8.out.below b9)
        have TG9 := Lib.hid (TG8.out.of (b9.block _ KG8.out.1))
        have KA9 := Lib.hid (KA8.out.below b9)
        have KX9 := Lib.hid (KX8.out.below b9)
        have KR9 := Lib.hid (KR8.out.below b9)
        have HO9 := Lib.hid (HO8.out.below b9)
        have HB9 := Lib.hid (HB8.out.trans (b9.mono HB8.out.size))
        clear o9 b9 KG8 TG8 KA8 KX8 KR8 HO8 HB8 ka0 ka1 CAW
        by_cases h40 : 40 ≤ na
        · have hv : Hid (insV (ps.map PgV.pg) root x = (root, (ps.map PgV.pg), 3)) := by
            show _ = _
            unfold insV
            rw [if_pos hgo.out, hfo.out, ← hna]
            show (if 40 ≤ na then _ else _) = _
            rw [if_pos h40]
          have z40 : (na : Int) ≥ 40 := by omega
          replace hna := Lib.hid hna
          obtain ⟨-, g0, -⟩ := KG9.out
          obtain ⟨hRl, r0, fr⟩ := KR9.out
          go_wp2_with fail
          refine bodyPost_ret (v := .tuple #[.agg #[.int .i64 root, .slice va n vc], .int .i64 3]) (by simp [results, Tryz.results74, go_sem, r0]) rfl ?_
          rw [hv.out]
          exact bookI_end HO9.out HQ.out rfl HB9.out (by omega) (by omega) (by omega)
        · have z40 : ¬ (na : Int) ≥ 40 := by omega
          have hv : Hid (insV (ps.map PgV.pg) root x = if (inV (ps.map PgV.pg) x 12 root).2.2.2 then
              if (inV (ps.map PgV.pg) x 12 root).2.1 then
                if (allocV (inV (ps.map PgV.pg) x 12 root).1).2 < 0 then (root, (ps.map PgV.pg), 3)
                else ((allocV (inV (ps.map PgV.pg) x 12 root).1).2, putV (allocV (inV (ps.map PgV.pg) x 12 root).1).1 (allocV (inV (ps.map PgV.pg) x 12 root).1).2 ⟨true, false, [oldE (inV (ps.map PgV.pg) x 12 root).1 root, (inV (ps.map PgV.pg) x 12 root).2.2.1]⟩, 0)
              else (root, (inV (ps.map PgV.pg) x 12 root).1, 0)
            else (root, (ps.map PgV.pg), 3)) := by
            show _ = _
            unfold insV
            rw [if_pos hgo.out, hfo.out, ← hna]
            show (if 40 ≤ na then _ else _) = _
            rw [if_neg h40]
          replace hna := Lib.hid hna
          have hq9 : w3.heap.size < w9.heap.size := KG9.out.1
          have hba : BookAt w9 w3.heap.size root (ps.map PgV.pg) va n vc qs := ⟨KG9.out, TG9.out, HO9.out.rd, HQ.out⟩
          have CIN := l11In_any x w3.heap.size root (ps.map PgV.pg) N B HFF.out 12 root va n vc qs w9 hba (Nat.le_refl _) hdn.out hN hB
          have e13 : (13 : Int) - ((12 : Nat) : Int) = 1 := rfl
          rw [e13] at CIN
          obtain ⟨r, hir⟩ : ∃ r, inV (ps.map PgV.pg) x 12 root = r := ⟨_, rfl⟩
          rw [hir] at CIN hv
          have hfr : Hid (Fits (N + 12) (B + 48) r.1) := by
            have := HFF.out.ins x 12 root
            rw [hir] at this
            exact Lib.hid this
          have hger : Hid (n ≤ r.1.length) := by
            have := inV_ge (ps.map PgV.pg) x 12 root
            rw [hir, hll.out] at this
            exact Lib.hid this
          have HOFF := Lib.hid (HO9.out.offB (some W0.heap.size) (fun B e => by cases e; exact Nat.le_refl _) (Z := fun _ => False) (fun _ e => e.elim))
          replace CIN := Lib.hid CIN
          replace hir := Lib.hid hir
          clear hba e13 HFF hdn hgo
          obtain ⟨-, ka, -⟩ := KA9.out
          have ka0 := ka 0
          simp at ka0
          obtain ⟨-, kx, -⟩ := KX9.out
          have kx0 := kx 0
          have kx1 := kx 1
          have kx2 := kx 2
          have kx3 := kx 3
          have kx4 := kx 4
          simp at kx0 kx1 kx2 kx3 kx4
          clear ka kx
          go_wp2_with fail
          refine CIN.out.mono ?_
          rintro e w10 ⟨rfl, a10, n10, c10, us, hb10, g10, hc10⟩
          have s10 := g10.size
          have hq10 : w3.heap.size < w10.heap.size := hb10.loc.1
          have O10 : OwnP w10 W0.heap.size (.slice a10 n10 c10) us := (hc10 (some W0.heap.size) (fun B e => by cases e; omega) (fun _ => False) (fun _ e => e.elim) HOFF.out).self
          obtain ⟨W11, hW11⟩ : ∃ W11, W11 = w10.alloc (.cells #[.int .i64 r.2.2.1.id, .int .i64 r.2.2.1.x0, .int .i64 r.2.2.1.y0, .int .i64 r.2.2.1.x1, .int .i64 r.2.2.1.y1] 77) := ⟨_, rfl⟩
          have b11 : Below w10.heap.size w10 W11 := by subst hW11; exact new_below _ _
          have s11 : W11.heap.size = w10.heap.size + 1 := by subst hW11; simp
          have E11 : Hid (Loc W11 w10.heap.size #[.int .i64 r.2.2.1.id, .int .i64 r.2.2.1.x0, .int .i64 r.2.2.1.y0, .int .i64 r.2.2.1.x1, .int .i64 r.2.2.1.y1]) := by subst hW11; exact Lib.hid (Loc.new _ _ _)
          have K11 := Lib.hid (hb10.loc.below b11)
          have T11 := Lib.hid (hb10.tag.of (b11.block _ hb10.loc.1))
          have KA11 := Lib.hid ((KA9.out.grown g10 (fun k e => by cases e; omega)).below b11)
          have KR11 := Lib.hid ((KR9.out.grown g10 (fun k e => by cases e; omega)).below b11)
          have HO11 := Lib.hid (O10.below b11)
          have HB11 : Below w.heap.size w W11 := (HB9.out.grown g10 HB9.out.size (fun k e => by cases e; omega)).trans (b11.mono (by have := HB9.out.size; omega))
          have HQ11 := Lib.hid hb10.eq
          replace s11 := Lib.hid s11
          have hWq : w10.heap.size < W11.heap.size := by have := s11.out; omega
          have hB11 := Lib.hid HB11
          clear b11 g10 hc10 hb10 O10 KG9 TG9 KA9 KX9 KR9 HO9 HB9 HOFF ka0 kx0 kx1 kx2 kx3 kx4 CIN
          go_upto_region 10 with (fail)
          rw [← hW11]
          clear hW11
          cases hok : r.2.2.2 with
          | false =>
            rw [hok] at hv
            replace hv := Lib.hid (show insV (ps.map PgV.pg) root x = (root, (ps.map PgV.pg), 3) from hv.out)
            clear hok
            have CC := Lib.hid (C7.out W11 hB11.out)
            obtain ⟨-, kz, -⟩ := KA11.out
            have kz0 := kz 0
            have kz1 := kz 1
            simp at kz0 kz1
            go_wp2_with fail
            refine CC.out.mono ?_
            rintro e wz ⟨vz, pz, rfl, hpz, oz, bz⟩
            obtain ⟨az, cz, rfl⟩ := oz.shape
            have sz := bz.size
            obtain ⟨hRl, r0, fr⟩ := KR11.out.below bz
            have HBz := Lib.hid (hB11.out.trans (bz.mono hB11.out.size))
            have OZ := Lib.hid oz
            have HPZ := Lib.hid hpz
            clear bz oz hpz CC kz
            go_wp2_with fail
            refine bodyPost_ret (v := .tuple #[.agg #[.int .i64 root, .slice az pz.length cz], .int .i64 3]) (by simp [results, Tryz.results74, go_sem, r0]) rfl ?_
            rw [hv.out]
            exact bookI_end OZ.out HPZ.out rfl HBz.out (by omega) (by omega) (by omega)
          | true =>
            rw [hok] at hv
            cases hmo : r.2.1 with
            | false =>
              rw [hmo] at hv
              replace hv := Lib.hid (show insV (ps.map PgV.pg) root x = (root, r.1, 0) from hv.out)
              obtain ⟨-, g0, -⟩ := K11.out
              obtain ⟨hRl, r0, fr⟩ := KR11.out
              clear hok hmo
              go_wp2_with fail
              refine bodyPost_ret (v := .tuple #[.agg #[.int .i64 root, .slice a10 n10 c10], .int .i64 0]) (by simp [results, Tryz.results74, go_sem, r0]) rfl ?_
              rw [hv.out]
              exact bookI_end HO11.out HQ11.out rfl HB11 (by omega) (by omega) (by omega)
            | true =>
              rw [hmo] at hv
              replace hv := Lib.hid (show insV (ps.map PgV.pg) root x = if (allocV r.1).2 < 0 then (root, (ps.map PgV.pg), 3) else ((allocV r.1).2, putV (allocV r.1).1 (allocV r.1).2 ⟨true, false, [oldE r.1 root, r.2.2.1]⟩, 0) from hv.out)
              clear hok hmo
              obtain ⟨rk, rfl⟩ := Int.eq_ofNat_of_zero_le hr0
              have hun := ownP_len HO11.out
              have hul : us.length = r.1.length := len_pgs HQ11.out
              have hrk : rk < n10 := by have := hger.out; omega
              obtain ⟨pb, poff, pk, hpa, hpbl, hpk, hprd, d0, d1, d2⟩ := rdP_at HO11.out.rd hrk
              subst hpa
              obtain ⟨ob, hob⟩ : ∃ ob, joinAll (pk.xs.map boxOf) = ob := ⟨_, rfl⟩
              have hoe : Hid (oldE r.1 rk = ⟨(rk : Int), ob.x0, ob.y0, ob.x1, ob.y1⟩) := by
                have e1 : pageAt r.1 rk = pk.pg := by rw [← HQ11.out]; exact pageAt_yes hpk
                show _ = _
                unfold oldE
                rw [e1]
                have e2 : boxesV pk.pg.xs = ob := hob
                rw [e2]
              have hpkn : pk.n ≤ B + 48 := by
                have h1 := hfr.out.2 pk.pg (by rw [← HQ11.out]; exact List.mem_map_of_mem (List.mem_of_getElem? hpk))
                have h2 : pk.xs.length = pk.n := hprd.1.1
                have h3 : pk.pg.xs.length = pk.xs.length := rfl
                omega
              have CB := Lib.hid (show ∀ V, Below W11.heap.size W11 V → Calls Tryz.prog 90 #[.agg #[.bool pk.leaf, .slice pk.a pk.n pk.cap]] V (RetBox ob V) from fun V bV => by
                rw [← hob]
                exact sBoundOf_any pk.leaf pk.a pk.n pk.cap pk.xs V (hprd.below bV) (by omega))
              obtain ⟨-, k0, -⟩ := K11.out
              have k00 := k0 0
              have k01 := k0 1
              simp at k00 k01
              have KS := Lib.hid (show ∀ V, Below W11.heap.size W11 V → (fun V => Below W11.heap.size W11 V ∧ V.cell? ⟨w3.heap.size, 0, none⟩ = some (.int .i64 (rk : Int)) ∧ V.cell? ⟨w3.heap.size, 1, none⟩ = some (.slice (some ⟨pb, poff, none⟩) n10 c10) ∧ V.cell? ⟨pb, poff + rk * 3 + 1, none⟩ = some (.bool pk.leaf) ∧ V.cell? ⟨pb, poff + rk * 3 + 1 + 1, none⟩ = some (.slice pk.a pk.n pk.cap)) V from fun V b => ⟨b, (b.cell (p := ⟨w3.heap.size, 0, none⟩) (show w3.heap.size < W11.heap.size by omega)).trans k00, (b.cell (p := ⟨w3.heap.size, 1, none⟩) (show w3.heap.size < W11.heap.size by omega)).trans k01, (b.cell (p := ⟨pb, poff + rk * 3 + 1, none⟩) hpbl).trans d1, (b.cell (p := ⟨pb, poff + rk * 3 + 1 + 1, none⟩) hpbl).trans d2⟩)
              have KT := Lib.hid (show ∀ V V' : World, Below W11.heap.size W11 V → Below V.heap.size V V' → Below W11.heap.size W11 V' from fun V V' b b' => b.trans (b'.mono b.size))
              have z0 : (0 : Int) ≤ rk := by omega
              have z1 : (rk : Int) < n10 := by omega
              replace hun := Lib.hid hun
              replace hul := Lib.hid hul
              clear hpk hprd d0 d1 d2 k0 k00 k01 hob
              go_upto_region 11 with (fail)
              go_cut [12] (fun s V => ∃ g, s = .pointer (some ⟨g, 0, none⟩) ∧ Hid (EntIn W11 #[.int .i64 (rk : Int), .int .i64 ob.x0, .int .i64 ob.y0, .int .i64 ob.x1, .int .i64 ob.y1] g V))
              case first => as_aux_lemma =>
                refine wp_region_noPanic ?_
                refine wp_region_held_drew (S := fun V => Below W11.heap.size W11 V ∧ V.cell? ⟨w3.heap.size, 0, none⟩ = some (.int .i64 (rk : Int)) ∧ V.cell? ⟨w3.heap.size, 1, none⟩ = some (.slice (some ⟨pb, poff, none⟩) n10 c10) ∧ V.cell? ⟨pb, poff + rk * 3 + 1, none⟩ = some (.bool pk.leaf) ∧ V.cell? ⟨pb, poff + rk * 3 + 1 + 1, none⟩ = some (.slice pk.a pk.n pk.cap)) (by kernel_rfl) (KS.out _ (drew_below _)) (fun hHeld => ?_)
                refine wpAnyH_take (i := 0) (v := ?v0_8) rfl (by kernel_rfl) (by kernel_rfl) (by kernel_rfl) (fun _ _ _ h => h) (Or.inl ⟨by rfl, ?hy0_8⟩) (by assumption) ?rest0_8
                case hy0_8 => intro w hSw; (try dsimp only at hSw); go_simp; (try with_reducible rfl)
                simp only [List.getElem_toArray, List.getElem_cons_zero, Act.put, List.setIfInBounds_toArray, List.set_cons_zero, List.set_cons_succ]
                refine wpAnyH_take (i := 1) (v := ?v1_9) rfl (by kernel_rfl) (by kernel_rfl) (by kernel_rfl) (fun _ _ _ h => h) (Or.inl ⟨by rfl, ?hy1_9⟩) (by assumption) ?rest1_9
                case hy1_9 => intro w hSw; (try dsimp only at hSw); go_simp; (try with_reducible rfl)
                simp only [List.getElem_toArray, List.getElem_cons_zero, List.getElem_cons_succ, Act.put, List.setIfInBounds_toArray, List.set_cons_zero, List.set_cons_succ]
                refine wpAnyH_take (i := 2) (v := ?v2_10) rfl (by kernel_rfl) (by kernel_rfl) (by kernel_rfl) (fun _ _ _ h => h) (Or.inl ⟨by rfl, ?hy2_10⟩) (by assumption) ?rest2_10
                case hy2_10 => intro w hSw; (try dsimp only at hSw); go_simp; (try with_reducible rfl)
                simp only [List.getElem_toArray, List.getElem_cons_zero, List.getElem_cons_succ, Act.put, List.setIfInBounds_toArray, List.set_cons_zero, List.set_cons_succ]
                refine wpAnyH_take (i := 3) (v := ?v3_11) rfl (by kernel_rfl) (by kernel_rfl) (by kernel_rfl) (fun _ _ _ h => h) (Or.inl ⟨by rfl, ?hy3_11⟩) (by assumption) ?rest3_11
                case hy3_11 => intro w hSw; (try dsimp only at hSw); go_simp; (try with_reducible rfl)
                simp only [List.getElem_toArray, List.getElem_cons_zero, List.getElem_cons_succ, Act.put, List.setIfInBounds_toArray, List.set_cons_zero, List.set_cons_succ]
                refine wpAnyH_take (i := 4) (v := ?v4_12) rfl (by kernel_rfl) (by kernel_rfl) (by kernel_rfl) (fun _ _ _ h => h) (Or.inl ⟨by rfl, ?hy4_12⟩) (by assumption) ?rest4_12
                case hy4_12 => intro w hSw; (try dsimp only at hSw); go_simp; (try with_reducible rfl)
                simp only [List.getElem_toArray, List.getElem_cons_zero, List.getElem_cons_succ, Act.put, List.setIfInBounds_toArray, List.set_cons_zero, List.set_cons_succ]
                refine wpAnyH_take (i := 5) (v := ?v5_13) rfl (by kernel_rfl) (by kernel_rfl) (by kernel_rfl) (fun _ _ _ h => h) (Or.inl ⟨by rfl, ?hy5_13⟩) (by assumption) ?rest5_13
                case hy5_13 => intro w hSw; (try dsimp only at hSw); go_simp; (try with_reducible rfl)
                simp only [List.getElem_toArray, List.getElem_cons_zero, List.getElem_cons_succ, Act.put, List.setIfInBounds_toArray, List.set_cons_zero, List.set_cons_succ]
                refine wpAnyH_ready (rs := [6, 11]) (by kernel_rfl) (by simp) ?_
                refine AllReadyH.cons rfl (fun K hK => ?_) (AllReadyH.cons rfl (fun K hK => ?_) AllReadyH.nil)
                · go_simp
                  refine hK.out _ _ (KS.out _ (drew_below _)) (fun hHeld => ?_)
                  clear hK K
                  refine wpAnyH_take (i := 7) (v := ?v7_3) rfl (by kernel_rfl) (by kernel_rfl) (by kernel_rfl) (fun _ _ _ h => h) (Or.inl ⟨by rfl, ?hy7_3⟩) (by assumption) ?rest7_3
                  case hy7_3 => intro w hSw; (try dsimp only at hSw); go_simp; (try with_reducible rfl)
                  simp only [List.getElem_toArray, List.getElem_cons_zero, List.getElem_cons_succ, Act.put, List.setIfInBounds_toArray, List.set_cons_zero, List.set_cons_succ]
                  refine wpAnyH_take (i := 8) (v := ?v8_4) rfl (by kernel_rfl) (by kernel_rfl) (by kernel_rfl) (fun _ _ _ h => h) (Or.inl ⟨by rfl, ?hy8_4⟩) (by assumption) ?rest8_4
                  case hy8_4 => intro w hSw; (try dsimp only at hSw); go_simp; (try with_reducible rfl)
                  simp only [List.getElem_toArray, List.getElem_cons_zero, List.getElem_cons_succ, Act.put, List.setIfInBounds_toArray, List.set_cons_zero, List.set_cons_succ]
                  refine wpAnyH_ready (rs := [9, 11]) (by kernel_rfl) (by simp) ?_
                  refine AllReadyH.cons rfl (fun K hK => ?_) (AllReadyH.cons rfl (fun K hK => ?_) AllReadyH.nil)
                  · go_simp
                    refine (CB.out _ (drew_below _)).mono ?_
                    rintro e wb ⟨rfl, hb⟩
                    have Bc : Below W11.heap.size W11 wb := (drew_below W11).trans hb
                    refine hK.out _ _ (KS.out _ (Bc)) (fun hHeld => ?_)
                    clear hK K
                    refine wpAnyH_take (i := 10) (v := ?v10_1) rfl (by kernel_rfl) (by kernel_rfl) (by kernel_rfl) (fun _ _ _ h => h) (Or.inl ⟨by rfl, ?hy10_1⟩) (by assumption) ?rest10_1
                    case hy10_1 => intro w hSw; (try dsimp only at hSw); go_simp; (try with_reducible rfl)
                    simp only [List.getElem_toArray, List.getElem_cons_zero, List.getElem_cons_succ, Act.put, List.setIfInBounds_toArray, List.set_cons_zero, List.set_cons_succ]
                    refine wpAnyH_ready (rs := [11]) (by kernel_rfl) (by simp) ?_
                    refine AllReadyH.cons rfl (fun K hK => ?_) AllReadyH.nil
                    go_simp
                    refine hK.out _ _ (KS.out _ (Bc.alloc Bc.size _)) (fun hHeld => ?_)
                    clear hK K
                    refine wpAnyH_ready (rs := [12]) (by kernel_rfl) (by simp) ?_
                    refine AllReadyH.cons rfl (fun K hK => ?_) AllReadyH.nil
                    go_simp
                    refine hK.out _ _ (KS.out _ (Bc.alloc Bc.size _)) (fun hHeld => ?_)
                    clear hK K
                    refine wpAnyH_done (by kernel_rfl) ?_ _
                    refine NoPanic.normal ?_
                    clear hHeld
                    go_wp2_with fail
                    go_meet
                    exact ⟨_, rfl, Lib.hid (entIn_new Bc)⟩
                  · go_simp
                    refine hK.out _ _ (KS.out _ ((new_below W11 (.cells #[.int .i64 0, .int .i64 0, .int .i64 0, .int .i64 0, .int .i64 0] 77)).drew)) (fun hHeld => ?_)
                    clear hK K
                    refine wpAnyH_ready (rs := [9]) (by kernel_rfl) (by simp) ?_
                    refine AllReadyH.cons rfl (fun K hK => ?_) AllReadyH.nil
                    go_simp
                    refine (CB.out _ ((new_below W11 (.cells #[.int .i64 0, .int .i64 0, .int .i64 0, .int .i64 0, .int .i64 0] 77)).drew)).mono ?_
                    rintro e wb ⟨rfl, hb⟩
                    have Bc : Below W11.heap.size W11 wb := ((new_below W11 (.cells #[.int .i64 0, .int .i64 0, .int .i64 0, .int .i64 0, .int .i64 0] 77)).drew).trans (hb.mono (by show _ ≤ (W11.alloc (.cells #[.int .i64 0, .int .i64 0, .int .i64 0, .int .i64 0, .int .i64 0] 77)).heap.size; simp))
                    obtain ⟨hl, k5, f5⟩ := ((Loc.new W11 #[.int .i64 0, .int .i64 0, .int .i64 0, .int .i64 0, .int .i64 0] 77).drew.below hb)
                    refine hK.out _ _ (KS.out _ (Bc)) (fun hHeld => ?_)
                    clear hK K
                    refine wpAnyH_take (i := 10) (v := ?v10_2) rfl (by kernel_rfl) (by kernel_rfl) (by kernel_rfl) (fun _ _ _ h => h) (Or.inl ⟨by rfl, ?hy10_2⟩) (by assumption) ?rest10_2
                    case hy10_2 => intro w hSw; (try dsimp only at hSw); go_simp; (try with_reducible rfl)
                    simp only [List.getElem_toArray, List.getElem_cons_zero, List.getElem_cons_succ, Act.put, List.setIfInBounds_toArray, List.set_cons_zero, List.set_cons_succ]
                    refine wpAnyH_ready (rs := [12]) (by kernel_rfl) (by simp) ?_
                    refine AllReadyH.cons rfl (fun K hK => ?_) AllReadyH.nil
                    go_simp
                    refine hK.out _ _ (KS.out _ (ent_st Bc (Nat.le_refl _))) (fun hHeld => ?_)
                    clear hK K
                    refine wpAnyH_done (by kernel_rfl) ?_ _
                    refine NoPanic.normal ?_
                    clear hHeld
                    go_wp2_with fail
                    go_meet
                    exact ⟨_, rfl, Lib.hid (entIn_old Bc (Nat.le_refl _) hl ⟨k5, f5⟩)⟩
                · go_simp
                  refine hK.out _ _ (KS.out _ ((new_below W11 (.cells #[.int .i64 0, .int .i64 0, .int .i64 0, .int .i64 0, .int .i64 0] 77)).drew)) (fun hHeld => ?_)
                  clear hK K
                  refine wpAnyH_ready (rs := [6]) (by kernel_rfl) (by simp) ?_
                  refine AllReadyH.cons rfl (fun K hK => ?_) AllReadyH.nil
                  go_simp
                  refine hK.out _ _ (KS.out _ ((new_below W11 (.cells #[.int .i64 0, .int .i64 0, .int .i64 0, .int .i64 0, .int .i64 0] 77)).drew)) (fun hHeld => ?_)
                  clear hK K
                  refine wpAnyH_take (i := 7) (v := ?v7_5) rfl (by kernel_rfl) (by kernel_rfl) (by kernel_rfl) (fun _ _ _ h => h) (Or.inl ⟨by rfl, ?hy7_5⟩) (by assumption) ?rest7_5
                  case hy7_5 => intro w hSw; (try dsimp only at hSw); go_simp; (try with_reducible rfl)
                  simp only [List.getElem_toArray, List.getElem_cons_zero, List.getElem_cons_succ, Act.put, List.setIfInBounds_toArray, List.set_cons_zero, List.set_cons_succ]
                  refine wpAnyH_take (i := 8) (v := ?v8_6) rfl (by kernel_rfl) (by kernel_rfl) (by kernel_rfl) (fun _ _ _ h => h) (Or.inl ⟨by rfl, ?hy8_6⟩) (by assumption) ?rest8_6
                  case hy8_6 => intro w hSw; (try dsimp only at hSw); go_simp; (try with_reducible rfl)
                  simp only [List.getElem_toArray, List.getElem_cons_zero, List.getElem_cons_succ, Act.put, List.setIfInBounds_toArray, List.set_cons_zero, List.set_cons_succ]
                  refine wpAnyH_ready (rs := [9]) (by kernel_rfl) (by simp) ?_
                  refine AllReadyH.cons rfl (fun K hK => ?_) AllReadyH.nil
                  go_simp
                  refine (CB.out _ ((new_below W11 (.cells #[.int .i64 0, .int .i64 0, .int .i64 0, .int .i64 0, .int .i64 0] 77)).drew)).mono ?_
                  rintro e wb ⟨rfl, hb⟩
                  have Bc : Below W11.heap.size W11 wb := ((new_below W11 (.cells #[.int .i64 0, .int .i64 0, .int .i64 0, .int .i64 0, .int .i64 0] 77)).drew).trans (hb.mono (by show _ ≤ (W11.alloc (.cells #[.int .i64 0, .int .i64 0, .int .i64 0, .int .i64 0, .int .i64 0] 77)).heap.size; simp))
                  obtain ⟨hl, k5, f5⟩ := ((Loc.new W11 #[.int .i64 0, .int .i64 0, .int .i64 0, .int .i64 0, .int .i64 0] 77).drew.below hb)
                  refine hK.out _ _ (KS.out _ (Bc)) (fun hHeld => ?_)
                  clear hK K
                  refine wpAnyH_take (i := 10) (v := ?v10_7) rfl (by kernel_rfl) (by kernel_rfl) (by kernel_rfl) (fun _ _ _ h => h) (Or.inl ⟨by rfl, ?hy10_7⟩) (by assumption) ?rest10_7
                  case hy10_7 => intro w hSw; (try dsimp only at hSw); go_simp; (try with_reducible rfl)
                  simp only [List.getElem_toArray, List.getElem_cons_zero, List.getElem_cons_succ, Act.put, List.setIfInBounds_toArray, List.set_cons_zero, List.set_cons_succ]
                  refine wpAnyH_ready (rs := [12]) (by kernel_rfl) (by simp) ?_
                  refine AllReadyH.cons rfl (fun K hK => ?_) AllReadyH.nil
                  go_simp
                  refine hK.out _ _ (KS.out _ (ent_st Bc (Nat.le_refl _))) (fun hHeld => ?_)
                  clear hK K
                  refine wpAnyH_done (by kernel_rfl) ?_ _
                  refine NoPanic.normal ?_
                  clear hHeld
                  go_wp2_with fail
                  go_meet
                  exact ⟨_, rfl, Lib.hid (entIn_old Bc (Nat.le_refl _) hl ⟨k5, f5⟩)⟩
              case rest =>
                obtain ⟨g12, rfl, hcut⟩ := hcut
                obtain ⟨E12, b12, hg12⟩ := hcut.out
                clear hcut KS KT CB
                have s12 := b12.size
                have K12 := Lib.hid (K11.out.below b12)
                have T12 := Lib.hid (T11.out.of (b12.block _ K11.out.1))
                have KA12 := Lib.hid (KA11.out.below b12)
                have KR12 := Lib.hid (KR11.out.below b12)
                have HO12 := Lib.hid (HO11.out.below b12)
                have E10 := Lib.hid (E11.out.below b12)
                have HB12 := Lib.hid (hB11.out.trans (b12.mono hB11.out.size))
                have hnb : n10 ≤ 1000 := by have h1 := hfr.out.1; have h2 := hun.out; have h3 := hul.out; omega
                have CA := sAlloc_any (rk : Int) (some ⟨pb, poff, none⟩) n10 c10 us wc HO12.out.rd (by omega) (fun p hp => by
                  have h1 := hfr.out.2 p.pg (by rw [← HQ11.out]; exact List.mem_map_of_mem hp)
                  have h2 : p.xs.length = p.n := (HO12.out.rd.2 p hp).1.1
                  have h3 : p.pg.xs.length = p.xs.length := rfl
                  omega)
                rw [HQ11.out] at CA
                replace CA := Lib.hid CA
                obtain ⟨-, k0, -⟩ := K12.out
                have k00 := k0 0
                have k01 := k0 1
                simp at k00 k01
                replace E12 := Lib.hid E12
                clear b12 K11 T11 KA11 KR11 HO11 E11 hB11 HB11 k0 hpbl z0 z1
                go_wp2_with fail
                refine CA.out.mono ?_
                rintro e w13 ⟨v13, ps13, rfl, hp13, o13, b13⟩
                obtain ⟨a13, c13, rfl⟩ := o13.shape
                obtain ⟨n13, hn13⟩ : ∃ n13, n13 = ps13.length := ⟨_, rfl⟩
                rw [← hn13] at o13 ⊢
                have s13 := b13.size
                obtain ⟨al, hal⟩ : ∃ al, (allocV r.1) = al := ⟨_, rfl⟩
                have hidx := allocV_idx r.1
                have hale := (Fits.alloc hfr.out)
                rw [hal] at hv hp13 hidx hale ⊢
                obtain ⟨W14, hW14⟩ : ∃ W14, W14 = w13.alloc (.cells #[.int .i64 (rk : Int), .slice a13 n13 c13] 26) := ⟨_, rfl⟩
                have b14 : Below w13.heap.size w13 W14 := by subst hW14; exact new_below _ _
                have s14 : W14.heap.size = w13.heap.size + 1 := by subst hW14; simp
                have Y14 : Hid (Loc W14 w13.heap.size #[.int .i64 (rk : Int), .slice a13 n13 c13]) := by subst hW14; exact Lib.hid (Loc.new _ _ _)
                have b124 : Below wc.heap.size wc W14 := b13.trans (b14.mono b13.size)
                have K14 := Lib.hid (K12.out.below b124)
                have T14 := Lib.hid (T12.out.of (b124.block _ K12.out.1))
                have KA14 := Lib.hid (KA12.out.below b124)
                have KR14 := Lib.hid (KR12.out.below b124)
                have E14 := Lib.hid (E12.out.below b124)
                have F14 := Lib.hid (E10.out.below b124)
                have O14 := Lib.hid (o13.below b14)
                have hB14 := Lib.hid (HB12.out.trans (b124.mono HB12.out.size))
                replace hal := Lib.hid hal
                replace hn13 := Lib.hid hn13
                replace s14 := Lib.hid s14
                have hp13h := Lib.hid hp13
                have h14q : w3.heap.size < W14.heap.size := K14.out.1
                clear b13 b14 b124 o13 K12 T12 KA12 KR12 HO12 E10 E12 HB12 CA k00 k01 hp13
                go_upto_region 13 with (fail)
                rw [← hW14]
                clear hW14
                by_cases hneg : al.2 < 0
                · replace hv := Lib.hid (show insV (ps.map PgV.pg) (rk : Int) x = ((rk : Int), (ps.map PgV.pg), 3) from hv.out.trans (if_pos hneg))
                  have z2 : ¬ al.2 ≥ 0 := by omega
                  have CC := Lib.hid (C7.out W14 hB14.out)
                  obtain ⟨-, kz, -⟩ := KA14.out
                  have kz0 := kz 0
                  have kz1 := kz 1
                  simp at kz0 kz1
                  go_wp2_with fail
                  refine CC.out.mono ?_
                  rintro e wz ⟨vz, pz, rfl, hpz, oz, bz⟩
                  obtain ⟨az, cz, rfl⟩ := oz.shape
                  have sz := bz.size
                  obtain ⟨hRl, r0, fr⟩ := KR14.out.below bz
                  have HBz := Lib.hid (hB14.out.trans (bz.mono hB14.out.size))
                  have OZ := Lib.hid oz
                  have HPZ := Lib.hid hpz
                  clear bz oz hpz CC kz
                  go_wp2_with fail
                  refine bodyPost_ret (v := .tuple #[.agg #[.int .i64 (rk : Int), .slice az pz.length cz], .int .i64 3]) (by simp [results, Tryz.results74, go_sem, r0]) rfl ?_
                  rw [hv.out]
                  exact bookI_end OZ.out HPZ.out rfl HBz.out (by omega) (by omega) (by omega)
                · replace hv := Lib.hid (show insV (ps.map PgV.pg) (rk : Int) x = (al.2, putV al.1 al.2 ⟨true, false, [oldE r.1 rk, r.2.2.1]⟩, 0) from hv.out.trans (if_neg hneg))
                  have z2 : al.2 ≥ 0 := by omega
                  have hl13 : ps13.length = al.1.length := len_pgs hp13h.out
                  have hn13b : n13 ≤ 2000 := by have := hale.1; have := hn13.out; omega
                  have hwf : (Lit.int .i64 al.2).wf = true := wf_small _ (by omega) (by have := hfr.out.1; omega)
                  have R := World.ownsRow_lit (base := W14.heap.size) (size := 5) (e := 77) W14 #[.int .i64 (rk : Int), .int .i64 ob.x0, .int .i64 ob.y0, .int .i64 ob.x1, .int .i64 ob.y1, .int .i64 r.2.2.1.id, .int .i64 r.2.2.1.x0, .int .i64 r.2.2.1.y0, .int .i64 r.2.2.1.x1, .int .i64 r.2.2.1.y1] 2 (Nat.le_refl _) (by simp [maxLen]) rfl
                  have RN : RdS itLay (W14.alloc (.cells #[.int .i64 (rk : Int), .int .i64 ob.x0, .int .i64 ob.y0, .int .i64 ob.x1, .int .i64 ob.y1, .int .i64 r.2.2.1.id, .int .i64 r.2.2.1.x0, .int .i64 r.2.2.1.y0, .int .i64 r.2.2.1.x1, .int .i64 r.2.2.1.y1] 77)) (some ⟨W14.heap.size, 0, none⟩) 2 2 [⟨(rk : Int), ob.x0, ob.y0, ob.x1, ob.y1⟩, r.2.2.1] := rdS_ownsP (show OwnS itLay 77 (W14.alloc (.cells #[.int .i64 (rk : Int), .int .i64 ob.x0, .int .i64 ob.y0, .int .i64 ob.x1, .int .i64 ob.y1, .int .i64 r.2.2.1.id, .int .i64 r.2.2.1.x0, .int .i64 r.2.2.1.y0, .int .i64 r.2.2.1.x1, .int .i64 r.2.2.1.y1] 77)) W14.heap.size (.slice (some ⟨W14.heap.size, 0, none⟩) 2 2) [⟨(rk : Int), ob.x0, ob.y0, ob.x1, ob.y1⟩, r.2.2.1] from R)
                  have CP := sPut_any (rk : Int) al.2 a13 n13 c13 ps13 false (some ⟨W14.heap.size, 0, none⟩) 2 2 [⟨(rk : Int), ob.x0, ob.y0, ob.x1, ob.y1⟩, r.2.2.1] (W14.alloc (.cells #[.int .i64 (rk : Int), .int .i64 ob.x0, .int .i64 ob.y0, .int .i64 ob.x1, .int .i64 ob.y1, .int .i64 r.2.2.1.id, .int .i64 r.2.2.1.x0, .int .i64 r.2.2.1.y0, .int .i64 r.2.2.1.x1, .int .i64 r.2.2.1.y1] 77)) (O14.out.rd.below (new_below W14 _)) RN hwf (by omega) (by omega) (fun p hp => by
                    have h1 := hale.2 p.pg (by rw [← hp13h.out]; exact List.mem_map_of_mem hp)
                    have h2 : p.xs.length = p.n := (O14.out.rd.2 p hp).1.1
                    have h3 : p.pg.xs.length = p.xs.length := rfl
                    omega)
                  rw [hp13h.out, ← hoe.out] at CP
                  replace CP := Lib.hid CP
                  obtain ⟨-, y0, -⟩ := Y14.out
                  have y00 := y0 0
                  have y01 := y0 1
                  simp at y00 y01
                  obtain ⟨-, e0, -⟩ := E14.out
                  have e00 := e0 0
                  have e01 := e0 1
                  have e02 := e0 2
                  have e03 := e0 3
                  have e04 := e0 4
                  simp at e00 e01 e02 e03 e04
                  obtain ⟨-, f0, -⟩ := F14.out
                  have f00 := f0 0
                  have f01 := f0 1
                  have f02 := f0 2
                  have f03 := f0 3
                  have f04 := f0 4
                  simp at f00 f01 f02 f03 f04
                  clear R RN y0 e0 f0 hl13 hwf hneg
                  go_wp2_with fail
                  refine CP.out.mono ?_
                  rintro e w16 ⟨v16, ps16, rfl, hp16, o16, b16⟩
                  obtain ⟨a16, c16, rfl⟩ := o16.shape
                  have b156 : Below W14.heap.size W14 w16 := (new_below W14 (.cells #[.int .i64 (rk : Int), .int .i64 ob.x0, .int .i64 ob.y0, .int .i64 ob.x1, .int .i64 ob.y1, .int .i64 r.2.2.1.id, .int .i64 r.2.2.1.x0, .int .i64 r.2.2.1.y0, .int .i64 r.2.2.1.x1, .int .i64 r.2.2.1.y1] 77)).trans (b16.mono (by simp))
                  have s16 := b16.size
                  simp at s16
                  have K16 := K14.out.below b156
                  have T16 := T14.out.of (b156.block _ K14.out.1)
                  have KR16 := KR14.out.below b156
                  have HB16 := hB14.out.trans (b156.mono hB14.out.size)
                  have O16 := o16.mono (show W14.heap.size ≤ (W14.alloc (.cells #[.int .i64 (rk : Int), .int .i64 ob.x0, .int .i64 ob.y0, .int .i64 ob.x1, .int .i64 ob.y1, .int .i64 r.2.2.1.id, .int .i64 r.2.2.1.x0, .int .i64 r.2.2.1.y0, .int .i64 r.2.2.1.x1, .int .i64 r.2.2.1.y1] 77)).heap.size by simp)
                  have hP16 := Lib.hid hp16
                  clear b16 b156 o16 hp16 CP y00 y01 e00 e01 e02 e03 e04 f00 f01 f02 f03 f04
                  have KF := Lib.hid (((K16.set 0 (.int .i64 (rk : Int)) (by show 0 < 2; decide)).set 1 (.slice a16 ps16.length c16) (by show 1 < 2; decide)).set 0 (.int .i64 al.2) (by show 0 < 2; decide))
                  have hqr : w3.heap.size ≠ w.heap.size + 1 + 1 := by omega
                  have KRF := Lib.hid (((KR16.other 0 (.int .i64 (rk : Int)) hqr).other 1 (.slice a16 ps16.length c16) hqr).other 0 (.int .i64 al.2) hqr)
                  have OF := Lib.hid (((O16.store T16 0 (.int .i64 (rk : Int))).store (T16.set _ _ _) 1 (.slice a16 ps16.length c16)).store ((T16.set _ _ _).set _ _ _) 0 (.int .i64 al.2))
                  have HBF := Lib.hid (((HB16.setCell (p := ⟨w3.heap.size, 0, none⟩) (show w.heap.size ≤ w3.heap.size by omega) (.int .i64 (rk : Int))).setCell (p := ⟨w3.heap.size, 1, none⟩) (show w.heap.size ≤ w3.heap.size by omega) (.slice a16 ps16.length c16)).setCell (p := ⟨w3.heap.size, 0, none⟩) (show w.heap.size ≤ w3.heap.size by omega) (.int .i64 al.2))
                  have h16q := K16.1
                  obtain ⟨W17, hW17⟩ : ∃ W17, W17 = ((w16.setCell ⟨w3.heap.size, 0, none⟩ (.int .i64 (rk : Int))).setCell ⟨w3.heap.size, 1, none⟩ (.slice a16 ps16.length c16)).setCell ⟨w3.heap.size, 0, none⟩ (.int .i64 al.2) := ⟨_, rfl⟩
                  rw [← hW17] at KF KRF OF HBF
                  obtain ⟨-, g0, gf⟩ := K16
                  go_upto_region 17 with (fail)
                  rw [← hW17]
                  clear hW17 g0 gf KR16 O16 HB16 T16
                  obtain ⟨-, g0, -⟩ := KF.out
                  obtain ⟨hRl, r0, fr⟩ := KRF.out
                  go_wp2_with fail
                  refine bodyPost_ret (v := .tuple #[.agg #[.int .i64 al.2, .slice a16 ps16.length c16], .int .i64 0]) (by simp [results, Tryz.results74, go_sem, r0]) rfl ?_
                  rw [hv.out]
                  exact bookI_end OF.out hP16.out rfl HBF.out (by omega) (by omega) (by omega)
end Go.Proofs.YtfefggcfeppeiaaGreat

/- The model's draws of rectangles: four integers that fit, whatever they are. -/
namespace Go.Proofs.YtfefggcfeppeiaaGreat
open Go.RowKit

def I64 (x : Int) : Prop := -9223372036854775808 ≤ x ∧ x ≤ 9223372036854775807
theorem i64_wf {x : Int} (h : (Lit.int .i64 x).wf = true) : I64 x := bounds_i64 h
theorem wf_i64 {x : Int} (h : I64 x) : (Lit.int .i64 x).wf = true := by
  obtain ⟨a, b⟩ := h
  simp [Lit.wf, IntKind.min, IntKind.max, IntKind.signed, IntKind.bits]; omega

/-- What the draw of a rectangle leaves. -/
def DrawnBox (R : Int → Int → Int → Int → Prop) (g : Nat) (zs : List Int) (w : World) (e : Ending) (w' : World) : Prop :=
  ∃ x0 y0 x1 y1, e = .returned (.agg #[.int .i64 x0, .int .i64 y0, .int .i64 x1, .int .i64 y1]) ∧ R x0 y0 x1 y1 ∧ Cur g zs w' ∧ w.grownBy w' (some g)
def Small4 (x0 y0 x1 y1 : Int) : Prop := (0 ≤ x0 ∧ x0 ≤ 249) ∧ (0 ≤ y0 ∧ y0 ≤ 249) ∧ (x0 ≤ x1 ∧ x1 ≤ 255) ∧ (y0 ≤ y1 ∧ y1 ≤ 255)
def Any4 (x0 y0 x1 y1 : Int) : Prop := I64 x0 ∧ I64 y0 ∧ I64 x1 ∧ I64 y1

/-- A draw out of a list that was laid for it. -/
theorem drawnOf_lit {g : Nat} {zs l : List Int} {w : World} {o : Obj} {e : Ending} {w' : World} (h : DrawnOf g zs l (w.alloc o) e w') :
    ∃ x : Int, e = .returned (.int .i64 x) ∧ x ∈ l ∧ Cur g zs w' ∧ w.grownBy w' (some g) := by
  obtain ⟨x, he, hx, hc, hw⟩ := h
  refine ⟨x, he, hx, hc, ⟨hw.os, hw.tape, hw.output, by have := hw.size; simp at this; omega, fun i hi hne => ?_⟩⟩
  rw [hw.block i (by simp; omega) hne]
  exact heap_alloc_old w o hi

theorem lst_bd (a b : Int) : lst a b ≤ a ∧ lst a b ≤ b ∧ (lst a b = a ∨ lst a b = b) := by unfold lst; split <;> omega

theorem xs_mem {x : Int} (h : x ∈ [0, 1, 5, 9, 40]) : 0 ≤ x ∧ x ≤ 40 := by simp at h; omega
theorem ys_mem {x : Int} (h : x ∈ [0, 1, 3, 12]) : 0 ≤ x ∧ x ≤ 12 := by simp at h; omega

theorem add_in (a b : Int) (h : -1000000 ≤ a ∧ a ≤ 1000000) (h' : -1000000 ≤ b ∧ b ≤ 1000000) : IntKind.i64.wrap (a + b) = a + b := IntWalk.i64_in _ (by omega)

theorem grown_set (W : World) (b j : Nat) (u : Value) : W.grownBy (W.setCell ⟨b, j, none⟩ u) (some b) := grown_setCell (World.grownBy.refl _ _) b j u rfl

set_option maxRecDepth 100000 in
set_option maxHeartbeats 800000 in
theorem l2Draw_any (g : Nat) (zs : List Int) (w : World) (h : Cur g zs w) :
    Calls Tryz.prog 56 #[.pointer (some ⟨g, 0, none⟩)] w (DrawnBox Small4 g zs w) := by
  have hlt := cur_lt h
  have hne : w.heap.size ≠ g := by omega
  go_enter Tryz.func56, Tryz.ntmps56
  go_wp2_with fail
  refine (l1Below_any g zs 250 _ (cur_alloc h _) (by omega)).mono ?_
  rintro e w1 ⟨x, rfl, x0, x1, c, G⟩
  simp at x1
  go_wp2_with fail
  refine (l1Below_any g zs 250 _ c (by omega)).mono ?_
  rintro e w2 ⟨y, rfl, y0, y1, c, g2⟩
  replace G := grown_trans G g2
  clear g2
  simp at y1
  go_wp2_with fail
  refine (l1Once_any g zs 2 _ c (by omega)).mono ?_
  rintro e w3 ⟨b, rfl, c, g2⟩
  replace G := grown_trans G g2
  clear g2
  cases b
  case' true =>
    go_wp2_with fail
    refine (l1Below_any g zs 20 _ c (by omega)).mono ?_
    rintro e w4 ⟨x, rfl, x0, x1, c, g2⟩
    replace G := grown_trans G g2
    clear g2
    simp at x1
    go_wp2_with fail
    refine (l1Below_any g zs 20 _ c (by omega)).mono ?_
    rintro e w3 ⟨y, rfl, y0, y1, c, g2⟩
    replace G := grown_trans G g2
    clear g2
    simp at y1
  all_goals
    have s := G.size
    simp at s
    go_wp2_with fail
    refine (l1Int_any g zs [0, 1, 5, 9, 40] (some ⟨w3.heap.size, 0, none⟩) 5 5 _ (cur_alloc c _) (rdI_new w3 .i64 [0, 1, 5, 9, 40] _ _ 5 rfl rfl (by simp [maxLen])) (by omega) (by omega) (fun x hx => by cases hx; simp; omega)).mono ?_
    intro e w5 hd
    obtain ⟨u, rfl, hu, c, g2⟩ := drawnOf_lit hd
    clear hd
    obtain ⟨u0, u1⟩ := xs_mem hu
    clear hu
    replace G := grown_trans G g2
    clear g2
    have s := G.size
    simp at s
    go_wp2_with fail
    refine (sLeast_any _ _ _).mono ?_
    rintro e w6 ⟨rfl, rfl⟩
    go_wp2_with fail
    refine (l1Int_any g zs [0, 1, 3, 12] (some ⟨w5.heap.size, 0, none⟩) 4 4 _ (cur_alloc c _) (rdI_new w5 .i64 [0, 1, 3, 12] _ _ 4 rfl rfl (by simp [maxLen])) (by omega) (by omega) (fun x hx => by cases hx; simp; omega)).mono ?_
    intro e w7 hd
    obtain ⟨v, rfl, hv, c, g2⟩ := drawnOf_lit hd
    clear hd
    obtain ⟨v0, v1⟩ := ys_mem hv
    clear hv
    replace G := grown_trans G g2
    clear g2
    go_wp2_with fail
    refine (sLeast_any _ _ _).mono ?_
    rintro e w8 ⟨rfl, rfl⟩
    have k := grown_cell G (b := w.heap.size) (by simp) hne
    have f := grown_frozen G (b := w.heap.size) (by simp) hne
    go_wp2
    have K := grown_trans (grown_trans (grown_trans (grown_set w7 w.heap.size 0 (.int .i64 x)) (grown_set _ w.heap.size 1 (.int .i64 y))) (grown_set _ w.heap.size 2 (.int .i64 (lst 255 (x + u))))) (grown_set _ w.heap.size 3 (.int .i64 (lst 255 (y + v))))
    refine bodyPost_ret (v := .agg #[.int .i64 x, .int .i64 y, .int .i64 (lst 255 (x + u)), .int .i64 (lst 255 (y + v))]) (by simp [results, Tryz.results56, go_sem, k]) rfl ⟨_, _, _, _, rfl, ?_, ?_, ?_⟩
    · have := lst_bd 255 (x + u)
      have := lst_bd 255 (y + v)
      exact ⟨⟨by omega, by omega⟩, ⟨by omega, by omega⟩, ⟨by omega, by omega⟩, by omega, by omega⟩
    · exact cur_kept c K (fun j hj => by cases hj; exact hlt)
    · exact grown_own (grown_trans (World.grownBy_alloc w _ (some g)) G) (World.grownBy.refl _ none) K (fun j hj => by cases hj; exact Nat.le_refl _)

theorem cur_set {g : Nat} {zs : List Int} {W : World} (h : Cur g zs W) {b : Nat} (hb : g < b) (j : Nat) (u : Value) : Cur g zs (W.setCell ⟨b, j, none⟩ u) := cur_kept h (grown_set W b j u) (fun k hk => by cases hk; exact hb)
theorem grown_new {w W : World} {row : Option Nat} (h : w.grownBy W row) {b : Nat} (hb : w.heap.size ≤ b) (j : Nat) (u : Value) : w.grownBy (W.setCell ⟨b, j, none⟩ u) row :=
  grown_own h (World.grownBy.refl _ none) (grown_set W b j u) (fun k hk => by cases hk; exact hb)
theorem grown_alloc {w W : World} {row : Option Nat} (h : w.grownBy W row) (o : Obj) : w.grownBy (W.alloc o) row := grown_trans h (World.grownBy_alloc W o row)

set_option maxRecDepth 100000 in
set_option maxHeartbeats 1600000 in
theorem l2Any_any (g : Nat) (zs : List Int) (w : World) (h : Cur g zs w) :
    Calls Tryz.prog 30 #[.pointer (some ⟨g, 0, none⟩)] w (DrawnBox Any4 g zs w) := by
  have hlt := cur_lt h
  have hne : w.heap.size ≠ g := by omega
  have hne' : w.heap.size + 1 ≠ g := by omega
  go_enter Tryz.func30, Tryz.ntmps30
  go_wp2_with fail
  refine (l2Draw_any g zs _ (cur_alloc h _)).mono ?_
  rintro e w1 ⟨a, b, c, d, rfl, ⟨⟨a0, a1⟩, ⟨b0, b1⟩, ⟨c0, c1⟩, d0, d1⟩, cu, G⟩
  have g0 := G
  go_wp2_with fail
  replace G := grown_alloc (grown_trans (World.grownBy_alloc w _ (some g)) G) (.cells #[.int .i64 a, .int .i64 b, .int .i64 c, .int .i64 d] 28)
  have S := G.size
  have hq : w.heap.size ≤ w1.heap.size := by have := g0.size; simp at this; omega
  have hqg : g < w1.heap.size := by omega
  have hq1 : w1.heap.size ≠ g := by omega
  have hq0 : w.heap.size ≠ w1.heap.size := by have := g0.size; simp at this; omega
  have p0 := grown_cell g0 (b := w.heap.size) (by simp) hne
  have q0 := grown_frozen g0 (b := w.heap.size) (by simp) hne
  clear g0
  refine (l1Below_any g zs 12 _ (cur_alloc cu _) (by omega)).mono ?_
  rintro e w2 ⟨x, rfl, x0, x1, cu, g2⟩
  simp at x1
  have k1 := grown_cell g2 (b := w1.heap.size) (by simp) hq1
  have f1 := grown_frozen g2 (b := w1.heap.size) (by simp) hq1
  have k0 : ∀ o, w2.cell? ⟨w.heap.size, o, none⟩ = _ := fun o => (grown_cell g2 (b := w.heap.size) (by simp; omega) hne o).trans ((World.cell?_alloc_lt w1 _ ⟨w.heap.size, o, none⟩ (by show w.heap.size < w1.heap.size; omega)).trans (p0 o))
  have f0 : ∀ o, w2.frozen? ⟨w.heap.size, o, none⟩ = _ := fun o => (grown_frozen g2 (b := w.heap.size) (by simp; omega) hne o).trans ((World.frozen?_alloc_old w1 _ ⟨w.heap.size, o, none⟩ (by show w.heap.size ≠ w1.heap.size; omega)).trans (q0 o))
  clear p0 q0
  have s2 := g2.size
  simp at s2
  replace G := grown_trans G g2
  clear g2
  rcases (by omega : x = 0 ∨ x = 1 ∨ x = 2 ∨ x = 3 ∨ 4 ≤ x) with rfl | rfl | rfl | rfl | hx
  · go_wp2_with fail
    refine (l1Raw_any g zs _ cu).mono ?_
    rintro e w3 ⟨y, rfl, hy, cu, g3⟩
    replace hy := Lib.hid (i64_wf hy)
    have k1' := grown_cell g3 (b := w1.heap.size) (by omega) hq1
    have f1' := grown_frozen g3 (b := w1.heap.size) (by omega) hq1
    have k0' := grown_cell g3 (b := w.heap.size) (by omega) hne
    have f0' := grown_frozen g3 (b := w.heap.size) (by omega) hne
    replace G := grown_trans G g3
    clear g3
    go_wp2
    refine bodyPost_ret (v := .agg #[.int .i64 y, .int .i64 b, .int .i64 c, .int .i64 d]) (by simp [results, Tryz.results30, go_sem, k0', k0]) rfl ⟨_, _, _, _, rfl, ?_, ?_, ?_⟩
    · exact ⟨hy.out, ⟨by omega, by omega⟩, ⟨by omega, by omega⟩, by omega, by omega⟩
    · exact cur_set (cur_set (cur_set (cur_set (cur_set (cu) hqg 0 _) hlt 0 _) hlt 1 _) hlt 2 _) hlt 3 _
    · exact grown_new (grown_new (grown_new (grown_new (grown_new (G) hq 0 _) (Nat.le_refl _) 0 _) (Nat.le_refl _) 1 _) (Nat.le_refl _) 2 _) (Nat.le_refl _) 3 _
  · go_wp2_with fail
    refine (l1Raw_any g zs _ cu).mono ?_
    rintro e w3 ⟨y, rfl, hy, cu, g3⟩
    replace hy := Lib.hid (i64_wf hy)
    have k1' := grown_cell g3 (b := w1.heap.size) (by omega) hq1
    have f1' := grown_frozen g3 (b := w1.heap.size) (by omega) hq1
    have k0' := grown_cell g3 (b := w.heap.size) (by omega) hne
    have f0' := grown_frozen g3 (b := w.heap.size) (by omega) hne
    replace G := grown_trans G g3
    clear g3
    go_wp2
    refine bodyPost_ret (v := .agg #[.int .i64 a, .int .i64 b, .int .i64 c, .int .i64 y]) (by simp [results, Tryz.results30, go_sem, k0', k0]) rfl ⟨_, _, _, _, rfl, ?_, ?_, ?_⟩
    · exact ⟨⟨by omega, by omega⟩, ⟨by omega, by omega⟩, ⟨by omega, by omega⟩, hy.out⟩
    · exact cur_set (cur_set (cur_set (cur_set (cur_set (cu) hqg 3 _) hlt 0 _) hlt 1 _) hlt 2 _) hlt 3 _
    · exact grown_new (grown_new (grown_new (grown_new (grown_new (G) hq 3 _) (Nat.le_refl _) 0 _) (Nat.le_refl _) 1 _) (Nat.le_refl _) 2 _) (Nat.le_refl _) 3 _
  · go_wp2
    refine bodyPost_ret (v := .agg #[.int .i64 a, .int .i64 b, .int .i64 (a - 1), .int .i64 d]) (by simp [results, Tryz.results30, go_sem, k0]) rfl ⟨_, _, _, _, rfl, ?_, ?_, ?_⟩
    · exact ⟨⟨by omega, by omega⟩, ⟨by omega, by omega⟩, ⟨by omega, by omega⟩, by omega, by omega⟩
    · exact cur_set (cur_set (cur_set (cur_set (cur_set (cu) hqg 2 _) hlt 0 _) hlt 1 _) hlt 2 _) hlt 3 _
    · exact grown_new (grown_new (grown_new (grown_new (grown_new (G) hq 2 _) (Nat.le_refl _) 0 _) (Nat.le_refl _) 1 _) (Nat.le_refl _) 2 _) (Nat.le_refl _) 3 _
  · go_wp2
    refine bodyPost_ret (v := .agg #[.int .i64 a, .int .i64 0, .int .i64 c, .int .i64 255]) (by simp [results, Tryz.results30, go_sem, k0]) rfl ⟨_, _, _, _, rfl, ?_, ?_, ?_⟩
    · exact ⟨⟨by omega, by omega⟩, ⟨by omega, by omega⟩, ⟨by omega, by omega⟩, by omega, by omega⟩
    · exact cur_set (cur_set (cur_set (cur_set (cur_set (cur_set (cu) hqg 1 _) hqg 3 _) hlt 0 _) hlt 1 _) hlt 2 _) hlt 3 _
    · exact grown_new (grown_new (grown_new (grown_new (grown_new (grown_new (G) hq 1 _) hq 3 _) (Nat.le_refl _) 0 _) (Nat.le_refl _) 1 _) (Nat.le_refl _) 2 _) (Nat.le_refl _) 3 _
  · have h0 : (x == 0) = false := by rw [beq_eq_false_iff_ne]; omega
    have h1 : (x == 1) = false := by rw [beq_eq_false_iff_ne]; omega
    have h2 : (x == 2) = false := by rw [beq_eq_false_iff_ne]; omega
    have h3 : (x == 3) = false := by rw [beq_eq_false_iff_ne]; omega
    go_wp2
    refine bodyPost_ret (v := .agg #[.int .i64 a, .int .i64 b, .int .i64 c, .int .i64 d]) (by simp [results, Tryz.results30, go_sem, k0]) rfl ⟨_, _, _, _, rfl, ?_, ?_, ?_⟩
    · exact ⟨⟨by omega, by omega⟩, ⟨by omega, by omega⟩, ⟨by omega, by omega⟩, by omega, by omega⟩
    · exact cur_set (cur_set (cur_set (cur_set (cu) hlt 0 _) hlt 1 _) hlt 2 _) hlt 3 _
    · exact grown_new (grown_new (grown_new (grown_new (G) (Nat.le_refl _) 0 _) (Nat.le_refl _) 1 _) (Nat.le_refl _) 2 _) (Nat.le_refl _) 3 _
end Go.Proofs.YtfefggcfeppeiaaGreat

/- The model's draws of two rectangles. -/
namespace Go.Proofs.YtfefggcfeppeiaaGreat
open Go.RowKit

/-- Two rectangles, drawn. -/
def DrawnTwo (g : Nat) (zs : List Int) (w : World) (e : Ending) (w' : World) : Prop :=
  ∃ a b c d p q r s, e = .returned (.tuple #[.agg #[.int .i64 a, .int .i64 b, .int .i64 c, .int .i64 d], .agg #[.int .i64 p, .int .i64 q, .int .i64 r, .int .i64 s]]) ∧ Any4 a b c d ∧ Any4 p q r s ∧ Cur g zs w' ∧ w.grownBy w' (some g)

theorem cur_drew {g : Nat} {zs : List Int} {W : World} (h : Cur g zs W) : Cur g zs W.drew := cur_kept (row := none) h ⟨rfl, rfl, rfl, Nat.le_refl _, fun _ _ _ => rfl⟩ (fun _ hk => by cases hk)
theorem grown_drew {w W : World} {row : Option Nat} (h : w.grownBy W row) : w.grownBy W.drew row := ⟨h.os, h.tape, h.output, h.size, h.block⟩

theorem i64_mst {a b : Int} (h : I64 a) (h' : I64 b) : I64 (mst a b) := by unfold mst; split <;> assumption

end Go.Proofs.YtfefggcfeppeiaaGreat

/- What the laws of rectangles draw: one or two rectangles, out of the bytes that came in. -/
namespace Go.Proofs.YtfefggcfeppeiaaGreat
open Go.RowKit

def DrawnPair (w : World) (e : Ending) (w' : World) : Prop :=
  ∃ a b c d p q r s, e = .returned (.tuple #[.agg #[.int .i64 a, .int .i64 b, .int .i64 c, .int .i64 d], .agg #[.int .i64 p, .int .i64 q, .int .i64 r, .int .i64 s]]) ∧ Any4 a b c d ∧ Any4 p q r s ∧ Below w.heap.size w w'
def DrawnOne (w : World) (e : Ending) (w' : World) : Prop :=
  ∃ a b c d, e = .returned (.agg #[.int .i64 a, .int .i64 b, .int .i64 c, .int .i64 d]) ∧ Any4 a b c d ∧ Below w.heap.size w w'
/-- Only blocks from B on may have turned: what the cursor's own block and new ones mean to the caller. -/
theorem below_blk {B : Nat} {w W W' : World} {g : Nat} (h : Below B w W) (hg : W.grownBy W' (some g)) (hB : B ≤ g) (hs : B ≤ W.heap.size) : Below B w W' := h.grown hg hs (fun k hk => by cases hk; exact hB)

end Go.Proofs.YtfefggcfeppeiaaGreat

/- The model's draws of items and of lists of items. -/
namespace Go.Proofs.YtfefggcfeppeiaaGreat
open Go.RowKit

/-- What the draw of an item leaves: whatever its numbers are. -/
def DrawnItem (g : Nat) (zs : List Int) (w : World) (e : Ending) (w' : World) : Prop :=
  ∃ x : It, e = .returned (.agg #[.int .i64 x.id, .int .i64 x.x0, .int .i64 x.y0, .int .i64 x.x1, .int .i64 x.y1]) ∧ Cur g zs w' ∧ w.grownBy w' (some g)

set_option maxRecDepth 100000 in
set_option maxHeartbeats 800000 in
theorem l4Draw_any (g : Nat) (zs : List Int) (w : World) (h : Cur g zs w) :
    Calls Tryz.prog 75 #[.pointer (some ⟨g, 0, none⟩)] w (DrawnItem g zs w) := by
  have hlt := cur_lt h
  have hne : w.heap.size ≠ g := by omega
  go_enter Tryz.func75, Tryz.ntmps75
  go_wp2_with fail
  refine (l1Below_any g zs 30 _ (cur_alloc h _) (by omega)).mono ?_
  rintro e w1 ⟨x, rfl, x0, x1, c, G⟩
  simp at x1
  have hs := G.size
  simp at hs
  go_wp2_with fail
  refine (l2Draw_any g zs _ c).mono ?_
  rintro e w2 ⟨p0, p1, p2, p3, rfl, -, c, g2⟩
  replace G := grown_trans G g2
  clear g2
  have k := grown_cell G (b := w.heap.size) (by simp) hne
  have f := grown_frozen G (b := w.heap.size) (by simp) hne
  go_wp2
  refine bodyPost_ret (v := .agg #[.int .i64 (1 + x), .int .i64 p0, .int .i64 p1, .int .i64 p2, .int .i64 p3]) (by simp [results, Tryz.results75, go_sem, k]) rfl ⟨⟨1 + x, p0, p1, p2, p3⟩, rfl, ?_, ?_⟩
  · exact cur_set (cur_set (cur_set (cur_set (cur_set (c) hlt 0 _) hlt 1 _) hlt 2 _) hlt 3 _) hlt 4 _
  · exact grown_new (grown_new (grown_new (grown_new (grown_new (grown_trans (World.grownBy_alloc w _ (some g)) G) (Nat.le_refl _) 0 _) (Nat.le_refl _) 1 _) (Nat.le_refl _) 2 _) (Nat.le_refl _) 3 _) (Nat.le_refl _) 4 _

end Go.Proofs.YtfefggcfeppeiaaGreat
