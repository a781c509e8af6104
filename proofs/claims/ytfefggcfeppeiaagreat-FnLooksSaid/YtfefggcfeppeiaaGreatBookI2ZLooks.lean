/- The program's copy of a book. -/
import Derived.Test.YtfefggcfeppeiaaGreatBookI1ZLooks
import Derived.Deep.DeepCutAuto
import Derived.Deep.RegionHeld3
namespace Go.Proofs.YtfefggcfeppeiaaGreat
open Go.RowKit

/-- 'make([]T, 0, n)' at a step of a region that draws. -/
theorem step_make_own {P : Program} {w : World} {ops : Array Oper} {o : Oper} {a : Act} {K : Act → World → Prop} {Q : Exit → Act → World → Prop} {E : Prop} (hgd : o.guard = none) (l c : Operand) (t : TypeId) (hop : o.op = Op.makeSlice t l c)
    (base : Nat) (e : TypeId) (i : TypeInfo) (z : Value) (size : Nat) (h1 : P.underlying t = some (.slice e)) (h2 : P.info? e = some i) (h3 : i.zero = some z) (h4 : i.size = size)
    (kl kc : IntKind) (n : Nat) (hl : a.eval l = .int kl 0) (hc : a.eval c = .int kc (n : Int)) (b2 : i.bytes * n ≤ 281474976710656) (b3 : n ≤ maxLen) (b4 : base ≤ w.heap.size)
    (h : ∀ w', w'.ownsRow base e size (.slice (some ⟨w.heap.size, 0, none⟩) 0 n) 0 [] → w.grownBy w' none → K (a.put o.dst (.slice (some ⟨w.heap.size, 0, none⟩) 0 n)) w') :
    if Region.wanted o (yielded ops a.tmps) = true then Oper.wp P o a w K Q else E := by
  have hw : Region.wanted o (yielded ops a.tmps) = true := by simp [Region.wanted, hgd]
  rw [if_pos hw]
  obtain ⟨w', hrun, r1, r2⟩ := run_make_own (P := P) w base t e i z size h1 h2 h3 h4 kl kc n b2 b3 b4
  unfold Oper.wp
  simp [execOp, hop, hl, hc, hrun, Result.andThen]
  exact h w' r1 r2
theorem copy_round2 {w wr w4 w5 : World} {G k : Nat} {root : Int} {a a4 a5 : Option Addr} {n cap c4 c5 vc : Nat} {va : Option Addr} {qs ps : List PgV} {p : PgV} (hGl : G < wr.heap.size) (hG2 : w.heap.size + 1 < G)
    (KA : Loc wr w.heap.size #[.int .i64 root, .slice a n cap]) (KR : Loc wr (w.heap.size + 1) #[.int .i64 0, .slice none 0 0]) (TG : TagT 26 wr G) (HO : OwnP wr (w.heap.size + 2) (.slice va k vc) qs) (HQ : qs.length = k) (HP : ps[k]? = some p)
    (HT : qs.map PgV.pg = (ps.take k).map PgV.pg) (HB : Below w.heap.size w wr) (B4 : Below wr.drew.heap.size wr.drew w4) (O4 : OwnS itLay 77 w4 wr.drew.heap.size (.slice a4 p.xs.length c4) p.xs)
    (O5 : w5.ownsRow (w.heap.size + 2) 70 3 (.slice a5 (k + 1) c5) (k + 1) (qs.flatMap pgLay.cells ++ pgLay.cells ⟨p.used, p.leaf, a4, p.xs.length, c4, p.xs⟩)) (G5 : (w4.alloc (.cells #[.bool p.used, .bool p.leaf, .slice a4 p.xs.length c4] 70)).grownBy w5 (Value.slice va k vc).ownBlock) (L5 : Loc w5 G #[.int .i64 root, .slice va k vc]) :
    Hid (Loc (w5.setCell ⟨G, 1, none⟩ (.slice a5 (k + 1) c5)) w.heap.size #[.int .i64 root, .slice a n cap]) ∧ Hid (Loc (w5.setCell ⟨G, 1, none⟩ (.slice a5 (k + 1) c5)) (w.heap.size + 1) #[.int .i64 0, .slice none 0 0]) ∧ Hid (Loc (w5.setCell ⟨G, 1, none⟩ (.slice a5 (k + 1) c5)) G #[.int .i64 root, .slice a5 (k + 1) c5]) ∧
      Hid (TagT 26 (w5.setCell ⟨G, 1, none⟩ (.slice a5 (k + 1) c5)) G) ∧ Hid (OwnP (w5.setCell ⟨G, 1, none⟩ (.slice a5 (k + 1) c5)) (w.heap.size + 2) (.slice a5 (k + 1) c5) (qs ++ [(⟨p.used, p.leaf, a4, p.xs.length, c4, p.xs⟩ : PgV)])) ∧
      Hid ((qs ++ [(⟨p.used, p.leaf, a4, p.xs.length, c4, p.xs⟩ : PgV)]).map PgV.pg = (ps.take (k + 1)).map PgV.pg) ∧ Hid (Below w.heap.size w (w5.setCell ⟨G, 1, none⟩ (.slice a5 (k + 1) c5))) := by
  have E4 : OwnS itLay 77 w4 (w.heap.size + 2) (.slice a4 p.xs.length c4) p.xs := O4.mono (show w.heap.size + 2 ≤ wr.heap.size by omega)
  have P5 : OwnP w5 (w.heap.size + 2) (.slice a5 (k + 1) c5) (qs ++ [(⟨p.used, p.leaf, a4, p.xs.length, c4, p.xs⟩ : PgV)]) :=
    OwnP.snoc (w := wr.drew) (w1 := w4.alloc (.cells #[.bool p.used, .bool p.leaf, .slice a4 p.xs.length c4] 70)) (HO.below (drew_below _)) (B4.alloc B4.size _) (E4.below (new_below _ _)) (fun g hg => (World.ownsRow.lt O4 g hg).1) (by rw [HQ]; exact O5) G5
  have hrow : ∀ j, (Value.slice va k vc).ownBlock = some j → w.heap.size + 2 ≤ j ∧ j ≠ G := fun j hj => ⟨(World.ownsRow.lt HO.row j hj).1, TG.ne HO.row (by decide) j hj⟩
  have s4 := B4.size
  have e0 : wr.drew.heap.size = wr.heap.size := rfl
  have s5 := G5.size
  simp at s5
  have hbl : ∀ q, q < wr.heap.size → (q < w.heap.size + 2 ∨ q = G) → w5.heap[q]? = wr.heap[q]? := fun q hq hq' =>
    (G5.block q (by simp; omega) (fun e => by have := hrow q e.symm; omega)).trans ((Below.heap_alloc _ _ q (by omega)).trans (B4.block q hq))
  have T5 : TagT 26 w5 G := TG.of (hbl G hGl (.inr rfl))
  have hne1 := T5.ne P5.row (by decide)
  have hne2 : ∀ q ∈ qs ++ [(⟨p.used, p.leaf, a4, p.xs.length, c4, p.xs⟩ : PgV)], ∀ g, q.sl.ownBlock = some g → g ≠ G := fun q hq => T5.ne (P5.ent q hq) (by decide)
  have hG := grown_setCell (World.grownBy.refl w5 (some G)) G 1 (.slice a5 (k + 1) c5) rfl
  refine ⟨Lib.hid ((KA.of (by omega) (hbl _ (by omega) (.inl (by omega)))).other 1 _ (by omega)), Lib.hid ((KR.of (by omega) (hbl _ (by omega) (.inl (by omega)))).other 1 _ (by omega)), Lib.hid (L5.set 1 (.slice a5 (k + 1) c5) (by show 1 < 2; decide)), Lib.hid (TagT.set T5 G 1 (.slice a5 (k + 1) c5)),
    Lib.hid ⟨OwnS.kept P5.row hG (own_ne hne1), fun q hq => OwnS.kept (P5.ent q hq) hG (own_ne (hne2 q hq)), P5.out, P5.pair⟩, Lib.hid ?_, Lib.hid ?_⟩
  · rw [List.map_append, HT, List.take_add_one, HP, List.map_append]
    rfl
  · exact ((((HB.drew).trans (B4.mono (show w.heap.size ≤ wr.heap.size by omega))).alloc (by omega) (.cells #[.bool p.used, .bool p.leaf, .slice a4 p.xs.length c4] 70)).grown G5 (by simp; omega) (fun j hj => by have := (hrow j hj).1; omega)).setCell (p := ⟨G, 1, none⟩) (show w.heap.size ≤ G by omega) _


theorem OwnP.nil {w : World} {base n cap : Nat} {a : Option Addr} (h : w.ownsRow base 70 3 (.slice a n cap) 0 []) : OwnP w base (.slice a n cap) [] :=
  ⟨h, fun p hp => (by cases hp), fun p hp => (by cases hp), fun i j p q _ hp => (by simp at hp)⟩

end Go.Proofs.YtfefggcfeppeiaaGreat
