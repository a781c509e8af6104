/- What the model's l11Any does to a book's pages. -/
import Derived.Test.YtfefggcfeppeiaaGreatQLooksf
import Derived.Test.YtfefggcfeppeiaaGreatDrawNode4ZLooks
namespace Go.Proofs.YtfefggcfeppeiaaGreat
open Go.RowKit

theorem flat_used (ps : List PgV) (k : Nat) (p : PgV) (u : Bool) (hk : ps[k]? = some p) : (ps.flatMap pgLay.cells).set (k * 3) (.bool u) = (ps.set k ⟨u, p.leaf, p.a, p.n, p.cap, p.xs⟩).flatMap pgLay.cells := by
  induction ps generalizing k with
  | nil => simp at hk
  | cons y l ih =>
    cases k with
    | zero =>
      obtain rfl : y = p := by simpa using hk
      simp [pgLay, List.flatMap_cons]
    | succ k =>
      have := ih k (by simpa using hk)
      simp only [List.flatMap_cons, List.set_cons_succ]
      rw [← this, List.set_append_right _ _ (by show 3 ≤ _; omega)]
      show pgLay.cells y ++ (l.flatMap pgLay.cells).set ((k + 1) * 3 - 3) _ = _
      rw [show (k + 1) * 3 - 3 = k * 3 by omega]
theorem flat_node (ps : List PgV) (k : Nat) (p x : PgV) (hk : ps[k]? = some p) (hu : x.used = p.used) : ((ps.flatMap pgLay.cells).set (k * 3 + 1) (.bool x.leaf)).set (k * 3 + 1 + 1) (.slice x.a x.n x.cap) = (ps.set k x).flatMap pgLay.cells := by
  induction ps generalizing k with
  | nil => simp at hk
  | cons y l ih =>
    cases k with
    | zero =>
      obtain rfl : y = p := by simpa using hk
      simp [pgLay, List.flatMap_cons, hu]
    | succ k =>
      have := ih k (by simpa using hk)
      simp only [List.flatMap_cons, List.set_cons_succ]
      rw [← this]
      have e : ∀ (j : Nat) (u : Value) (t : List Value), (pgLay.cells y ++ t).set ((k + 1) * 3 + j) u = pgLay.cells y ++ t.set (k * 3 + j) u := by
        intro j u t
        rw [List.set_append_right _ _ (by show 3 ≤ _; omega)]
        show _ ++ t.set ((k + 1) * 3 + j - 3) u = _
        rw [show (k + 1) * 3 + j - 3 = k * 3 + j by omega]
      rw [show (k + 1) * 3 + 1 + 1 = (k + 1) * 3 + 2 by omega, e, e]
theorem OwnP.used {w : World} {base g n cap : Nat} {ps : List PgV} (h : OwnP w base (.slice (some ⟨g, 0, none⟩) n cap) ps) {k : Nat} {p : PgV} (hp : ps[k]? = some p) (u : Bool) : OwnP (w.setCell ⟨g, k * 3, none⟩ (.bool u)) base (.slice (some ⟨g, 0, none⟩) n cap) (ps.set k ⟨u, p.leaf, p.a, p.n, p.cap, p.xs⟩) := by
  have hG : w.grownBy (w.setCell ⟨g, k * 3, none⟩ (.bool u)) (Value.slice (some ⟨g, 0, none⟩) n cap).ownBlock := grown_setCell (World.grownBy.refl w (some g)) g (k * 3) (.bool u) rfl
  have hm : ∀ q ∈ ps.set k ⟨u, p.leaf, p.a, p.n, p.cap, p.xs⟩, ∃ q0 : PgV, q0 ∈ ps ∧ q.sl = q0.sl ∧ q.xs = q0.xs := fun q hq => by
    rcases List.mem_or_eq_of_mem_set hq with h1 | rfl
    · exact ⟨q, h1, rfl, rfl⟩
    · exact ⟨p, List.mem_of_getElem? hp, rfl, rfl⟩
  have ha : ∀ (i : Nat) (q : PgV), (ps.set k ⟨u, p.leaf, p.a, p.n, p.cap, p.xs⟩)[i]? = some q → ∃ q0 : PgV, ps[i]? = some q0 ∧ q.sl = q0.sl := fun i q hq => by
    rw [List.getElem?_set] at hq
    split at hq
    · rename_i e
      subst e
      split at hq
      · obtain rfl := Option.some.inj hq
        exact ⟨p, hp, rfl⟩
      · cases hq
    · exact ⟨q, hq, rfl⟩
  refine ⟨?_, fun q hq => ?_, fun q hq => ?_, fun i j q r hij hq hr => ?_⟩
  · have hr := h.row
    unfold OwnS at hr ⊢
    rw [List.length_set, ← flat_used ps k p u hp]
    rw [ownP_len h] at hr ⊢
    exact (hr.stored (k * 3) _).1
  · obtain ⟨q0, h1, h2, h3⟩ := hm q hq
    rw [h2, h3]
    exact (h.ent q0 h1).keptApart hG (h.out q0 h1).symm
  · obtain ⟨q0, h1, h2, h3⟩ := hm q hq
    rw [h2]
    exact h.out q0 h1
  · obtain ⟨q0, h1, h2⟩ := ha i q hq
    obtain ⟨r0, h3, h4⟩ := ha j r hr
    rw [h2, h4]
    exact h.pair i j q0 r0 hij h1 h3
theorem OwnP.node {w : World} {base g n cap : Nat} {ps : List PgV} (h : OwnP w base (.slice (some ⟨g, 0, none⟩) n cap) ps) {k : Nat} {p : PgV} (hp : ps[k]? = some p) (x : PgV) (hu : x.used = p.used) (hx : OwnS itLay 77 w base x.sl x.xs) (ha : ∀ q ∈ ps, Apart q.sl x.sl) :
    OwnP ((w.setCell ⟨g, k * 3 + 1, none⟩ (.bool x.leaf)).setCell ⟨g, k * 3 + 1 + 1, none⟩ (.slice x.a x.n x.cap)) base (.slice (some ⟨g, 0, none⟩) n cap) (ps.set k x) := by
  have hG : w.grownBy _ (Value.slice (some ⟨g, 0, none⟩) n cap).ownBlock := grown_trans (grown_setCell (World.grownBy.refl w (some g)) g (k * 3 + 1) (.bool x.leaf) rfl) (grown_setCell (World.grownBy.refl _ (some g)) g (k * 3 + 1 + 1) (.slice x.a x.n x.cap) rfl)
  have ho : Apart (.slice (some ⟨g, 0, none⟩) n cap) x.sl := apart_types h.row hx (by decide)
  refine ⟨?_, fun q hq => ?_, fun q hq => ?_, fun i j q r hij hq hr => ?_⟩
  · have hr := h.row
    unfold OwnS at hr ⊢
    rw [List.length_set, ← flat_node ps k p x hp hu]
    rw [ownP_len h] at hr ⊢
    exact ((hr.stored (k * 3 + 1) _).1.stored (k * 3 + 1 + 1) _).1
  · rcases List.mem_or_eq_of_mem_set hq with h1 | rfl
    · exact (h.ent q h1).keptApart hG (h.out q h1).symm
    · exact hx.keptApart hG ho.symm
  · rcases List.mem_or_eq_of_mem_set hq with h1 | rfl
    · exact h.out q h1
    · exact ho
  · rw [List.getElem?_set] at hq hr
    split at hq
    · rename_i e
      subst e
      rw [if_neg hij] at hr
      split at hq
      · obtain rfl := Option.some.inj hq
        exact (ha r (List.mem_of_getElem? hr)).symm
      · cases hq
    · split at hr
      · split at hr
        · obtain rfl := Option.some.inj hr
          exact ha q (List.mem_of_getElem? hq)
        · cases hr
      · exact h.pair i j q r hij hq hr
/-- Two pages more: the zero one, and one with entries of its own. -/
theorem OwnP.app2 {w w3 : World} {O : Obj} {base : Nat} {v v' : Value} {ps : List PgV} {x : PgV} (h : OwnP w base v ps) (hx : OwnS itLay 77 w base x.sl x.xs) (ha : ∀ q ∈ ps, Apart q.sl x.sl)
    (ho : w3.ownsRow base 70 3 v' (ps.length + 2) (ps.flatMap pgLay.cells ++ (pgLay.cells zeroPgV ++ pgLay.cells x))) (hg : (w.alloc O).grownBy w3 v.ownBlock) : OwnP w3 base v' (ps ++ [zeroPgV, x]) := by
  have h1 := h.below (new_below w O)
  have hx1 := hx.below (new_below w O)
  have hrow : OwnS pgLay 70 w3 base v' (ps ++ [zeroPgV, x]) := by
    unfold OwnS
    rw [List.length_append, List.flatMap_append, List.flatMap_cons, List.flatMap_cons, List.flatMap_nil, List.append_nil]
    exact ho
  have hent : ∀ q ∈ ps ++ [zeroPgV, x], OwnS itLay 77 w3 base q.sl q.xs := by
    intro q hq
    rcases List.mem_append.1 hq with h2 | h2
    · exact (h1.ent q h2).keptApart hg (h1.out q h2).symm
    · rcases List.mem_cons.1 h2 with rfl | h2
      · exact ownS_none _ _ _
      · rw [List.mem_singleton.1 h2]
        exact hx1.keptApart hg (apart_types h1.row hx1 (by decide)).symm
  have hlt : ∀ i q, (ps ++ [zeroPgV, x])[i]? = some q → (i < ps.length ∧ ps[i]? = some q) ∨ (i = ps.length ∧ q = zeroPgV) ∨ (i = ps.length + 1 ∧ q = x) := by
    intro i q hq
    by_cases hi : i < ps.length
    · rw [List.getElem?_append_left hi] at hq
      exact .inl ⟨hi, hq⟩
    · have hl := (List.getElem?_eq_some_iff.1 hq).1
      simp at hl
      rw [List.getElem?_append_right (by omega)] at hq
      rcases (by omega : i = ps.length ∨ i = ps.length + 1) with rfl | rfl
      · rw [Nat.sub_self] at hq
        exact .inr (.inl ⟨rfl, (Option.some.inj hq).symm⟩)
      · rw [show ps.length + 1 - ps.length = 1 by omega] at hq
        exact .inr (.inr ⟨rfl, (Option.some.inj hq).symm⟩)
  refine ⟨hrow, hent, fun q hq => apart_types hrow (hent q hq) (by decide), fun i j q r hij hq hr => ?_⟩
  rcases hlt i q hq with ⟨h2, h3⟩ | ⟨h2, rfl⟩ | ⟨h2, rfl⟩
  · rcases hlt j r hr with ⟨h4, h5⟩ | ⟨h4, rfl⟩ | ⟨h4, rfl⟩
    · exact h.pair i j q r hij h3 h5
    · exact (apart_none _ 0 0).1
    · exact ha q (List.mem_of_getElem? h3)
  · exact (apart_none _ 0 0).2
  · rcases hlt j r hr with ⟨h4, h5⟩ | ⟨h4, rfl⟩ | ⟨h4, rfl⟩
    · exact (ha r (List.mem_of_getElem? h5)).symm
    · exact (apart_none _ 0 0).1
    · exact absurd (h2.trans h4.symm) hij
theorem OwnP.take {w : World} {base g n cap : Nat} {ps : List PgV} (h : OwnP w base (.slice (some ⟨g, 0, none⟩) n cap) ps) {k : Nat} (hk : k ≤ n) : OwnP w base (.slice (some ⟨g, 0, none⟩) k cap) (ps.take k) := by
  have hl := ownP_len h
  have hlk : (ps.take k).length = k := by rw [List.length_take]; omega
  have hfl : ∀ l : List PgV, (l.flatMap pgLay.cells).length = l.length * 3 := fun l => flat_len pgLay l
  refine ⟨?_, fun q hq => h.ent q (List.mem_of_mem_take hq), fun q hq g' h1 h2 => h.out q (List.mem_of_mem_take hq) g' h1 h2, fun i j q r hij hq hr => ?_⟩
  · have hr := h.row
    unfold OwnS at hr ⊢
    rw [hlk]
    rw [hl] at hr
    obtain ⟨_, h2⟩ := hr
    rcases h2 with ⟨h0, _⟩ | ⟨g', cap', cur, hv, hg, hh, hn, hcap, hsz, htake⟩
    · cases h0
    · cases hv
      refine ⟨by rw [hfl, hlk]; rfl, .inr ⟨g, cap, cur, rfl, hg, hh, by omega, hcap, hsz, ?_⟩⟩
      have h3 : (cur.toList.take (n * 3)).take (k * 3) = (ps.flatMap pgLay.cells).take (k * 3) := by
        rw [← htake]
        rfl
      rw [List.take_take, Nat.min_eq_left (Nat.mul_le_mul_right _ hk)] at h3
      show cur.toList.take (k * 3) = _
      rw [h3]
      have h4 : ps.flatMap pgLay.cells = (ps.take k).flatMap pgLay.cells ++ (ps.drop k).flatMap pgLay.cells := by rw [← List.flatMap_append, List.take_append_drop]
      have h5 : k * 3 = ((ps.take k).flatMap pgLay.cells).length := by rw [hfl, hlk]
      rw [h4, h5, List.take_left]
  · have hi : ∀ i q, (ps.take k)[i]? = some q → ps[i]? = some q := fun i q e => by
      rw [List.getElem?_take] at e
      split at e
      · exact e
      · cases e
    exact h.pair i j q r hij (hi i q hq) (hi j r hr)
theorem step_build2 {P : Program} {w : World} {ops : Array Oper} {o : Oper} {a : Act} {K : Act → World → Prop} {Q : Exit → Act → World → Prop} {E : Prop} (hgd : o.guard = none) (x y : Operand) (t e : TypeId) (ho : o.op = .buildSlice t 2 #[(0, x), (1, y)]) (i : TypeInfo)
    (ht : P.underlying t = some (.slice e)) (hi : P.info? e = some i) (hz : i.zero = some (.agg #[.bool false, .bool false, .slice none 0 0])) (hs : i.size = 3) (u1 u2 u3 v1 v2 v3 : Value) (hx : a.eval x = .agg #[u1, u2, u3]) (hy : a.eval y = .agg #[v1, v2, v3])
    (h : K (a.put o.dst (.slice (some ⟨w.heap.size, 0, none⟩) 2 2)) (w.alloc (.cells #[u1, u2, u3, v1, v2, v3] e))) : if Region.wanted o (yielded ops a.tmps) = true then Oper.wp P o a w K Q else E := by
  have hw : Region.wanted o (yielded ops a.tmps) = true := by simp [Region.wanted, hgd]
  rw [if_pos hw]
  have hf : Instr.fill (fun i => some (i * 3, 3)) ((Array.range (2 * 3)).map fun k => (#[.bool false, .bool false, .slice none 0 0] : Array Value)[k % 3]!) [(0, .agg #[u1, u2, u3]), (1, .agg #[v1, v2, v3])] = some #[u1, u2, u3, v1, v2, v3] := by
    have hr : (Array.range (2 * 3)).map (fun k => (#[.bool false, .bool false, .slice none 0 0] : Array Value)[k % 3]!) = #[.bool false, .bool false, .slice none 0 0, .bool false, .bool false, .slice none 0 0] := by
      rw [show Array.range (2 * 3) = #[0, 1, 2, 3, 4, 5] by decide]
      simp
    rw [hr]
    have c1 : (Value.agg #[u1, u2, u3]).cells = #[u1, u2, u3] := rfl
    have c2 : (Value.agg #[v1, v2, v3]).cells = #[v1, v2, v3] := rfl
    simp [Instr.fill, c1, c2]
  have hB : (Instr.buildSlice t 2 #[(0, .agg #[u1, u2, u3]), (1, .agg #[v1, v2, v3])]).run P w = .ok (.slice (some ⟨w.heap.size, 0, none⟩) 2 2) (w.alloc (.cells #[u1, u2, u3, v1, v2, v3] e)) := by
    have r1 := fun W : World => run_underlying ht W
    have r2 : ∀ W : World, (sizeOf e).run P W = .ok 3 W := fun W => by simp [sizeOf, typeInfo, hi, hs, go_sem]
    have r3 : ∀ W : World, (zeroValue e).run P W = .ok (.agg #[.bool false, .bool false, .slice none 0 0]) W := fun W => by simp [zeroValue, typeInfo, hi, hz, go_sem]
    unfold Instr.buildSlice
    generalize Instr.fill = F at hf ⊢
    have hf2 : F (fun i => some (i * 3, 3)) ((Array.range (2 * 3)).map fun k => (Value.agg #[.bool false, .bool false, .slice none 0 0]).cells[k % (Value.agg #[.bool false, .bool false, .slice none 0 0]).cells.size]!) [(0, .agg #[u1, u2, u3]), (1, .agg #[v1, v2, v3])] = some #[u1, u2, u3, v1, v2, v3] := hf
    rw [Sem.run_bind, r1]
    show Sem.run P _ w = _
    rw [Sem.run_bind, r2]
    show Sem.run P _ w = _
    rw [if_neg (by decide), if_neg (by decide), Sem.run_bind, r3]
    show Sem.run P _ w = _
    rw [Sem.run_bind]
    show Sem.run P (match F (fun i => some (i * 3, 3)) ((Array.range (2 * 3)).map fun k => (Value.agg #[.bool false, .bool false, .slice none 0 0]).cells[k % (Value.agg #[.bool false, .bool false, .slice none 0 0]).cells.size]!) [(0, .agg #[u1, u2, u3]), (1, .agg #[v1, v2, v3])] with
      | some cells => _
      | _ => _) w = _
    rw [hf2]
    simp [newRow, go_sem]
  have hrun : (execOp a.eval o).run P w = .ok (.value (.slice (some ⟨w.heap.size, 0, none⟩) 2 2)) (w.alloc (.cells #[u1, u2, u3, v1, v2, v3] e)) := by
    have e1 : (#[(0, x), (1, y)] : Array (Nat × Operand)).map (fun (i, x) => (i, a.eval x)) = #[(0, .agg #[u1, u2, u3]), (1, .agg #[v1, v2, v3])] := by simp [hx, hy]
    unfold execOp
    rw [ho]
    simp only [e1]
    rw [Sem.run_bind, hB]
    rfl
  unfold Oper.wp
  rw [hrun]
  exact h
theorem any_app {w w4 w5 : World} {g G n n4 : Nat} {zs : List Int} {root : Int} {a a4 a5 : Option Addr} {c c4 c5 : Nat} {lf4 : Bool} {ys : List It} {ps : List PgV} {W : World} (hgw : g < w.heap.size) (hgG : g < G) (hwG : w.heap.size < G) (hsz : (∀ p ∈ ps, ∀ j, p.sl.ownBlock = some j → j < W.heap.size) ∧ w.heap.size ≤ W.heap.size)
    (KG : Loc w4 G #[.int .i64 root, .slice a n c]) (TG : TagT 26 w4 G) (KR : Loc w4 w.heap.size #[.int .i64 0, .slice none 0 0]) (TR : TagT 26 w4 w.heap.size) (HO : OwnP w4 w.heap.size (.slice a n c) ps) (hpl : ps.length = n) (CU : Cur g zs w4) (GR : w.grownBy w4 (some g))
    (O4 : OwnS itLay 77 w4 W.heap.size (.slice a4 n4 c4) ys) (O5 : w5.ownsRow w.heap.size 70 3 (.slice a5 (n + 2) c5) (n + 2) (ps.flatMap pgLay.cells ++ (pgLay.cells zeroPgV ++ pgLay.cells ⟨true, lf4, a4, n4, c4, ys⟩))) (G5 : (w4.alloc (.cells #[.bool false, .bool false, .slice none 0 0, .bool true, .bool lf4, .slice a4 n4 c4] 70)).grownBy w5 (Value.slice a n c).ownBlock) (L5 : Loc w5 G #[.int .i64 root, .slice a n c]) :
    Hid (Loc (w5.setCell ⟨G, 1, none⟩ (.slice a5 (n + 2) c5)) G #[.int .i64 root, .slice a5 (n + 2) c5]) ∧ Hid (TagT 26 (w5.setCell ⟨G, 1, none⟩ (.slice a5 (n + 2) c5)) G) ∧ Hid (Loc (w5.setCell ⟨G, 1, none⟩ (.slice a5 (n + 2) c5)) w.heap.size #[.int .i64 0, .slice none 0 0]) ∧ Hid (TagT 26 (w5.setCell ⟨G, 1, none⟩ (.slice a5 (n + 2) c5)) w.heap.size) ∧ Hid (OwnP (w5.setCell ⟨G, 1, none⟩ (.slice a5 (n + 2) c5)) w.heap.size (.slice a5 (n + 2) c5) (ps ++ [zeroPgV, (⟨true, lf4, a4, n4, c4, ys⟩ : PgV)])) ∧ Hid (Cur g zs (w5.setCell ⟨G, 1, none⟩ (.slice a5 (n + 2) c5))) ∧ Hid (w.grownBy (w5.setCell ⟨G, 1, none⟩ (.slice a5 (n + 2) c5)) (some g)) := by
  have hrow : ∀ j, (Value.slice a n c).ownBlock = some j → w.heap.size ≤ j ∧ j ≠ G ∧ j ≠ w.heap.size := fun j hj => ⟨(World.ownsRow.lt HO.row j hj).1, TG.ne HO.row (by decide) j hj, TR.ne HO.row (by decide) j hj⟩
  have P5 : OwnP w5 w.heap.size (.slice a5 (n + 2) c5) (ps ++ [zeroPgV, (⟨true, lf4, a4, n4, c4, ys⟩ : PgV)]) :=
    HO.app2 (O4.mono hsz.2) (fun q hq j h1 h2 => by have := hsz.1 q hq j h1; have := (World.ownsRow.lt O4 j h2).1; omega) (by rw [hpl]; exact O5) G5
  have s5 := G5.size
  simp at s5
  have hG4 := KG.1
  have hbl : ∀ q, q < w4.heap.size → (q = w.heap.size ∨ q = G) → w5.heap[q]? = w4.heap[q]? := fun q hq hq' => (G5.block q (by simp; omega) (fun e => by have := hrow q e.symm; omega)).trans (Below.heap_alloc _ _ q (by omega))
  have T5 : TagT 26 w5 G := TG.of (hbl G hG4 (.inr rfl))
  have TR5 : TagT 26 w5 w.heap.size := TR.of (hbl _ KR.1 (.inl rfl))
  have CU5 : Cur g zs w5 := cur_kept (cur_alloc CU _) G5 (fun k e => by have := (hrow k e).1; omega)
  have GR5 : w.grownBy w5 (some g) := by
    have h1 := grown_trans GR (World.grownBy_alloc w4 (.cells #[.bool false, .bool false, .slice none 0 0, .bool true, .bool lf4, .slice a4 n4 c4] 70) (some g))
    exact ⟨G5.os.trans h1.os, G5.tape.trans h1.tape, G5.output.trans h1.output, Nat.le_trans h1.size G5.size, fun k hk hne => (G5.block k (Nat.lt_of_lt_of_le hk h1.size) (fun e => by have := (hrow k e.symm).1; omega)).trans (h1.block k hk hne)⟩
  exact ⟨Lib.hid (L5.set 1 (.slice a5 (n + 2) c5) (by show 1 < 2; decide)), Lib.hid (T5.set _ _ _), Lib.hid ((KR.of (by omega) (hbl _ KR.1 (.inl rfl))).other 1 _ (by omega)), Lib.hid (TR5.set _ _ _), Lib.hid (P5.store T5 1 _), Lib.hid (cur_kept CU5 (grown_set w5 G 1 _) (fun k e => by cases e; exact hgG)), Lib.hid (grown_new GR5 (by omega) 1 _)⟩

end Go.Proofs.YtfefggcfeppeiaaGreat
