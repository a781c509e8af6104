/- What the program's Reach holds while it walks; its leaving, with the marks that each range over a function has left. -/
import Derived.Test.YtfefggcfeppeiaaGreatReachI1ZLooks
namespace Go.Proofs.YtfefggcfeppeiaaGreat
open Go.RowKit Go.Shelf

theorem ownsRow_at {w w' : World} {base : Nat} {e : TypeId} {s n : Nat} {v : Value} {xs : List Value} (h : w.ownsRow base e s v n xs) (hb : ∀ g, v.ownBlock = some g → w'.heap[g]? = w.heap[g]?) : w'.ownsRow base e s v n xs := by
  obtain ⟨h1, h2⟩ := h
  refine ⟨h1, ?_⟩
  rcases h2 with h2 | ⟨g, cap, cur, hv, hg, hh, r⟩
  · exact .inl h2
  · exact .inr ⟨g, cap, cur, hv, hg, (hb g (by rw [hv]; rfl)).trans hh, r⟩
theorem SetM.at' {w w' : World} {b n : Nat} {S : List Int} (h : SetM w b n S) (hb : w'.heap[b]? = w.heap[b]?) : SetM w' b n S := by
  obtain ⟨es, clock, h1, h2⟩ := h
  exact ⟨es, clock, hb.trans h1, h2⟩

/-- The marks: blocks for deferred calls of rounds, all empty. -/
structure Marks (B : Nat) (W : World) (Ds : List Nat) : Prop where
  nodup : Ds.Nodup
  all : ∀ D ∈ Ds, B ≤ D ∧ W.heap[D]? = some (.deferred (some []))
theorem Marks.of {B : Nat} {W W' : World} {Ds : List Nat} (h : Marks B W Ds) (hb : ∀ D ∈ Ds, W'.heap[D]? = W.heap[D]?) : Marks B W' Ds := ⟨h.nodup, fun D hD => ⟨(h.all D hD).1, (hb D hD).trans (h.all D hD).2⟩⟩
def markOf (D : Nat) : Deferred := { target := .collected D, args := #[] }
theorem leaves_marks {F : Fence} {n : Nat} {P : Program} {fn : Func} {tmps : Array Value} {R : Ending → World → Prop} {B : Nat} (Q : World → Prop) (hQ : ∀ (W : World) (D : Nat), Q W → B ≤ D → W.heap[D]? = some (.deferred (some [])) → Q (W.putObj D (.deferred none)))
    (hR : ∀ W, Q W → ∃ v, (results fn tmps).run P W = .ok v W ∧ R (.returned v) W) : ∀ (Ds : List Nat) (W : World), Marks B W Ds → Q W → LeavesInM F n P fn tmps R (Ds.map markOf) .returning W
  | [], W, _, q => hR W q
  | D :: Ds, W, h, q => by
    obtain ⟨h1, h2⟩ := h.all D List.mem_cons_self
    refine ⟨by simp, .inl ⟨D, _, rfl, run_takeDeferred h2, leaves_marks Q hQ hR Ds _ ?_ (hQ W D q h1 h2)⟩⟩
    have hn := List.nodup_cons.1 h.nodup
    refine Marks.of ⟨hn.2, fun D' hD' => h.all D' (List.mem_cons_of_mem _ hD')⟩ (fun D' hD' => ?_)
    exact World.putObj_heap_other (fun e => hn.1 (by first | rw [e]; exact hD' | rw [← e]; exact hD'))

/-- What the walk holds: the argument's box, the waiting list's box, both rows, the set, the marks. -/
structure RS (w : World) (root : Int) (a : Option Addr) (n cap bm Bw : Nat) (zs S ws : List Int) (vo vw : Value) (Ds : List Nat) (W : World) : Prop where
  box : Loc W w.heap.size #[.int .i64 root, .slice a n cap]
  tb : TagT 26 W w.heap.size
  wb : Loc W Bw #[vw]
  tw : TagT 41 W Bw
  hw : w.heap.size < Bw
  hm : w.heap.size < bm
  out : Own .i64 3 W w.heap.size vo zs
  wt : Own .i64 3 W w.heap.size vw ws
  set : SetM W bm S.length S
  ap : Apart vo vw
  mks : Marks w.heap.size W Ds
  below : Below w.heap.size w W
section
variable {w W W' : World} {root : Int} {a : Option Addr} {n cap bm Bw : Nat} {zs S ws : List Int} {vo vw : Value} {Ds : List Nat}
/-- The blocks that it reads. -/
def RSq (w : World) (bm Bw : Nat) (vo vw : Value) (Ds : List Nat) (q : Nat) : Prop := q = w.heap.size ∨ q = Bw ∨ q = bm ∨ vo.ownBlock = some q ∨ vw.ownBlock = some q ∨ q ∈ Ds
theorem RS.lt (h : RS w root a n cap bm Bw zs S ws vo vw Ds W) {q : Nat} (hq : RSq w bm Bw vo vw Ds q) : q < W.heap.size := by
  rcases hq with rfl | rfl | rfl | hq | hq | hq
  · exact h.box.1
  · exact h.wb.1
  · exact h.set.lt
  · exact (World.ownsRow.lt h.out q hq).2
  · exact (World.ownsRow.lt h.wt q hq).2
  · exact heap_lt (h.mks.all q hq).2
theorem RS.of (h : RS w root a n cap bm Bw zs S ws vo vw Ds W) (hs : W.heap.size ≤ W'.heap.size) (hB : Below w.heap.size w W') (hq : ∀ q, RSq w bm Bw vo vw Ds q → W'.heap[q]? = W.heap[q]?) : RS w root a n cap bm Bw zs S ws vo vw Ds W' where
  box := h.box.of hs (hq _ (.inl rfl))
  tb := h.tb.of (hq _ (.inl rfl))
  wb := h.wb.of hs (hq _ (.inr (.inl rfl)))
  tw := h.tw.of (hq _ (.inr (.inl rfl)))
  hw := h.hw
  hm := h.hm
  out := ownsRow_at h.out (fun g hg => hq g (.inr (.inr (.inr (.inl hg)))))
  wt := ownsRow_at h.wt (fun g hg => hq g (.inr (.inr (.inr (.inr (.inl hg))))))
  set := h.set.at' (hq _ (.inr (.inr (.inl rfl))))
  ap := h.ap
  mks := h.mks.of (fun D hD => hq D (.inr (.inr (.inr (.inr (.inr hD))))))
  below := hB
theorem RS.kept (h : RS w root a n cap bm Bw zs S ws vo vw Ds W) (hb : Below W.heap.size W W') : RS w root a n cap bm Bw zs S ws vo vw Ds W' :=
  h.of hb.size (h.below.trans (hb.mono h.below.size)) (fun q hq => hb.block q (h.lt hq))
theorem RS.alloc (h : RS w root a n cap bm Bw zs S ws vo vw Ds W) (O : Obj) : RS w root a n cap bm Bw zs S ws vo vw Ds (W.alloc O) := h.kept (new_below W O)
/-- The blocks are apart. -/
theorem RS.ne_out (h : RS w root a n cap bm Bw zs S ws vo vw Ds W) {g : Nat} (hg : vo.ownBlock = some g) : g ≠ w.heap.size ∧ g ≠ Bw ∧ g ≠ bm ∧ vw.ownBlock ≠ some g ∧ g ∉ Ds := by
  refine ⟨h.tb.ne h.out (by decide) g hg, h.tw.ne h.out (by decide) g hg, h.set.row h.out g hg, fun e => h.ap g hg e, fun hD => ?_⟩
  have h1 := (h.mks.all g hD).2
  rcases h.out.2 with ⟨e, _⟩ | ⟨g', c', cur, rfl, _, hh, _⟩
  · rw [e] at hg
    cases hg
  · have e : g' = g := by simpa [Value.ownBlock] using hg
    subst e
    rw [hh] at h1
    cases h1
theorem RS.ne_wait (h : RS w root a n cap bm Bw zs S ws vo vw Ds W) {g : Nat} (hg : vw.ownBlock = some g) : g ≠ w.heap.size ∧ g ≠ Bw ∧ g ≠ bm ∧ vo.ownBlock ≠ some g ∧ g ∉ Ds := by
  refine ⟨h.tb.ne h.wt (by decide) g hg, h.tw.ne h.wt (by decide) g hg, h.set.row h.wt g hg, fun e => h.ap g e hg, fun hD => ?_⟩
  have h1 := (h.mks.all g hD).2
  rcases h.wt.2 with ⟨e, _⟩ | ⟨g', c', cur, rfl, _, hh, _⟩
  · rw [e] at hg
    cases hg
  · have e : g' = g := by simpa [Value.ownBlock] using hg
    subst e
    rw [hh] at h1
    cases h1
theorem RS.ne_map (h : RS w root a n cap bm Bw zs S ws vo vw Ds W) : bm ≠ w.heap.size ∧ bm ≠ Bw ∧ vo.ownBlock ≠ some bm ∧ vw.ownBlock ≠ some bm ∧ bm ∉ Ds := by
  obtain ⟨cs, fr, e1⟩ := h.tb
  obtain ⟨cs', fr', e2⟩ := h.tw
  refine ⟨h.set.ne e1, h.set.ne e2, fun e => h.set.row h.out bm e rfl, fun e => h.set.row h.wt bm e rfl, fun hD => ?_⟩
  have h1 := (h.mks.all bm hD).2
  obtain ⟨es, clock, hb, _⟩ := h.set
  rw [hb] at h1
  cases h1
theorem RS.ne_box (h : RS w root a n cap bm Bw zs S ws vo vw Ds W) : Bw ≠ w.heap.size ∧ Bw ≠ bm ∧ vo.ownBlock ≠ some Bw ∧ vw.ownBlock ≠ some Bw ∧ Bw ∉ Ds := by
  refine ⟨fun e => by have := h.hw; omega, fun e => h.ne_map.2.1 e.symm, fun e => (h.ne_out e).2.1 rfl, fun e => (h.ne_wait e).2.1 rfl, fun hD => ?_⟩
  have h1 := (h.mks.all Bw hD).2
  obtain ⟨cs', fr', e2⟩ := h.tw
  rw [e2] at h1
  cases h1
theorem own_snoc {base : Nat} {v : Value} {zs : List Int} {x : Int} (h : W.ownsRow base 3 1 v (zs.length + 1) (zs.map (Value.int .i64) ++ [.int .i64 x])) : Own .i64 3 W base v (zs ++ [x]) := by
  unfold Own
  rw [List.length_append, List.length_singleton, List.map_append]
  exact h
/-- The set takes a number. -/
theorem RS.mark {x : Int} (h : RS w root a n cap bm Bw zs S ws vo vw Ds W) (hg : W.grownBy W' (some bm)) (hS : SetM W' bm (S.length + 1) (S ++ [x])) : RS w root a n cap bm Bw zs (S ++ [x]) ws vo vw Ds W' := by
  obtain ⟨n1, n2, n3, n4, n5⟩ := h.ne_map
  have hm := h.hm
  have hB : Below w.heap.size w W' := h.below.grown hg h.below.size (fun k e => by cases e; omega)
  have hq : ∀ q, q ≠ bm → q < W.heap.size → W'.heap[q]? = W.heap[q]? := fun q h1 h2 => hg.block q h2 (fun e => h1 (Option.some.inj e))
  exact { box := h.box.of hg.size (hq _ n1.symm h.box.1), tb := h.tb.of (hq _ n1.symm h.box.1), wb := h.wb.of hg.size (hq _ n2.symm h.wb.1), tw := h.tw.of (hq _ n2.symm h.wb.1), hw := h.hw, hm := h.hm,
          out := ownsRow_at h.out (fun g e => hq g (fun e2 => n3 (by rw [← e2]; exact e)) (World.ownsRow.lt h.out g e).2), wt := ownsRow_at h.wt (fun g e => hq g (fun e2 => n4 (by rw [← e2]; exact e)) (World.ownsRow.lt h.wt g e).2),
          set := by rw [List.length_append]; exact hS, ap := h.ap, mks := h.mks.of (fun D hD => hq D (fun e => n5 (by rw [← e]; exact hD)) (heap_lt (h.mks.all D hD).2)), below := hB }
/-- A number more in out. -/
theorem RS.outApp {x : Int} {v' : Value} {O : Obj} (h : RS w root a n cap bm Bw zs S ws vo vw Ds W) (ho : W'.ownsRow w.heap.size 3 1 v' (zs.length + 1) (zs.map (Value.int .i64) ++ [.int .i64 x])) (hg : (W.alloc O).grownBy W' vo.ownBlock) (hf : From (W.alloc O) vo v') : RS w root a n cap bm Bw (zs ++ [x]) S ws v' vw Ds W' := by
  have ha := h.alloc O
  have hs := hg.size
  have hq : ∀ q, vo.ownBlock ≠ some q → q < (W.alloc O).heap.size → W'.heap[q]? = (W.alloc O).heap[q]? := fun q h1 h2 => hg.block q h2 (fun e => h1 e.symm)
  have hn : ∀ {q}, (∀ g, vo.ownBlock = some g → g ≠ q) → vo.ownBlock ≠ some q := fun h1 e => h1 _ e rfl
  have hB : Below w.heap.size w W' := ha.below.grown hg ha.below.size (fun k e => (World.ownsRow.lt ha.out k e).1)
  exact { box := ha.box.of hs (hq _ (hn fun g e => (ha.ne_out e).1) ha.box.1), tb := ha.tb.of (hq _ (hn fun g e => (ha.ne_out e).1) ha.box.1), wb := ha.wb.of hs (hq _ (hn fun g e => (ha.ne_out e).2.1) ha.wb.1), tw := ha.tw.of (hq _ (hn fun g e => (ha.ne_out e).2.1) ha.wb.1),
          hw := h.hw, hm := h.hm, out := own_snoc ho, wt := ownsRow_at ha.wt (fun g e => hq g (fun e2 => ha.ap g e2 e) (World.ownsRow.lt ha.wt g e).2), set := ha.set.at' (hq _ (hn fun g e => (ha.ne_out e).2.2.1) ha.set.lt),
          ap := hf.apart ha.ap (fun g e => (World.ownsRow.lt ha.wt g e).2), mks := ha.mks.of (fun D hD => hq D (hn fun g e e2 => (ha.ne_out e).2.2.2.2 (by rw [e2]; exact hD)) (heap_lt (ha.mks.all D hD).2)), below := hB }
/-- The waiting list's box is written: what it then holds is owned, and apart. -/
theorem RS.store {v' : Value} {ws' : List Int} (h : RS w root a n cap bm Bw zs S ws vo vw Ds W) (hs : W.heap.size ≤ W'.heap.size) (hb : ∀ q, q = w.heap.size ∨ q = bm ∨ vo.ownBlock = some q ∨ q ∈ Ds → W'.heap[q]? = W.heap[q]?) (hwb : Loc W' Bw #[v']) (htw : TagT 41 W' Bw) (ho : Own .i64 3 W' w.heap.size v' ws') (ha : Apart vo v') (hB : Below w.heap.size w W') : RS w root a n cap bm Bw zs S ws' vo v' Ds W' where
  box := h.box.of hs (hb _ (.inl rfl))
  tb := h.tb.of (hb _ (.inl rfl))
  wb := hwb
  tw := htw
  hw := h.hw
  hm := h.hm
  out := ownsRow_at h.out (fun g hg => hb g (.inr (.inr (.inl hg))))
  wt := ho
  set := h.set.at' (hb _ (.inr (.inl rfl)))
  ap := ha
  mks := h.mks.of (fun D hD => hb D (.inr (.inr (.inr hD))))
  below := hB
theorem loc_set1 {q : Nat} {u v : Value} (h : Loc W q #[u]) : Loc (W.setCell ⟨q, 0, none⟩ v) q #[v] := h.set 0 v (by show 0 < 1; decide)
/-- The last one is taken from the waiting list. -/
theorem RS.pop {g k c : Nat} {x : Int} (h : RS w root a n cap bm Bw zs S (ws ++ [x]) vo (.slice (some ⟨g, 0, none⟩) (k + 1) c) Ds W) (hk : ws.length = k) : RS w root a n cap bm Bw zs S ws vo (.slice (some ⟨g, 0, none⟩) k c) Ds (W.setCell ⟨Bw, 0, none⟩ (.slice (some ⟨g, 0, none⟩) k c)) := by
  obtain ⟨n1, n2, n3, n4, n5⟩ := h.ne_box
  have hw := h.hw
  subst hk
  refine h.store (by simp) (fun q hq => Below.heap_setCell _ _ _ _ (fun e => ?_)) (loc_set1 h.wb) (h.tw.set _ _ _) ?_ (fun g' h1 h2 => h.ap g' h1 h2) (h.below.setCell (p := ⟨Bw, 0, none⟩) (show w.heap.size ≤ Bw by omega) _)
  · subst e
    rcases hq with e | e | e | e
    · exact n1 e
    · exact n2 e
    · exact n3 e
    · exact n5 e
  · have ho := h.wt
    unfold Own at ho
    rw [List.length_append, List.length_singleton, List.map_append] at ho
    have h2 := ownsRow_pop (by rw [List.length_map, Nat.mul_one]) ho
    refine ownsRow_at h2 (fun g' hg' => Below.heap_setCell _ _ _ _ (fun e => ?_))
    subst e
    exact n4 hg'
/-- A number more waits. -/
theorem RS.waitApp {x : Int} {v' : Value} {O : Obj} (h : RS w root a n cap bm Bw zs S ws vo vw Ds W) (ho : W'.ownsRow w.heap.size 3 1 v' (ws.length + 1) (ws.map (Value.int .i64) ++ [.int .i64 x])) (hg : (W.alloc O).grownBy W' vw.ownBlock) (hf : From (W.alloc O) vw v') : RS w root a n cap bm Bw zs S (ws ++ [x]) vo v' Ds (W'.setCell ⟨Bw, 0, none⟩ v') := by
  have ha := h.alloc O
  have hs := hg.size
  obtain ⟨n1, n2, n3, n4, n5⟩ := ha.ne_box
  have hw := h.hw
  have hq : ∀ q, vw.ownBlock ≠ some q → q < (W.alloc O).heap.size → W'.heap[q]? = (W.alloc O).heap[q]? := fun q h1 h2 => hg.block q h2 (fun e => h1 e.symm)
  have hn : ∀ {q}, (∀ g, vw.ownBlock = some g → g ≠ q) → vw.ownBlock ≠ some q := fun h1 e => h1 _ e rfl
  have hB : Below w.heap.size w W' := ha.below.grown hg ha.below.size (fun k e => (World.ownsRow.lt ha.wt k e).1)
  have tw' : TagT 41 W' Bw := ha.tw.of (hq _ (hn fun g e => (ha.ne_wait e).2.1) ha.wb.1)
  refine ha.store (by simpa using hs) (fun q e => ?_) (loc_set1 (ha.wb.of hs (hq _ (hn fun g e => (ha.ne_wait e).2.1) ha.wb.1))) (tw'.set _ _ _) ?_ ?_ (hB.setCell (p := ⟨Bw, 0, none⟩) (show w.heap.size ≤ Bw by omega) _)
  · refine (Below.heap_setCell _ _ _ _ (fun e2 => ?_)).trans ?_
    · subst e2
      rcases e with e | e | e | e
      · exact n1 e
      · exact n2 e
      · exact n3 e
      · exact n5 e
    · rcases e with rfl | rfl | e | e
      · exact hq _ (hn fun g e => (ha.ne_wait e).1) ha.box.1
      · exact hq _ (hn fun g e => (ha.ne_wait e).2.2.1) ha.set.lt
      · exact hq _ (fun e2 => ha.ap q e e2) (World.ownsRow.lt ha.out q e).2
      · exact hq _ (hn fun g e2 e3 => (ha.ne_wait e2).2.2.2.2 (by rw [e3]; exact e)) (heap_lt (ha.mks.all q e).2)
  · refine ownsRow_at (own_snoc ho) (fun g' hg' => Below.heap_setCell _ _ _ _ (fun e => ?_))
    subst e
    exact tw'.ne ho (by decide) _ hg' rfl
  · exact (hf.apart ha.ap.symm (fun g e => (World.ownsRow.lt ha.out g e).2)).symm
/-- What is no cells, and lies beyond, turns. -/
theorem RS.turn {row : Option Nat} (h : RS w root a n cap bm Bw zs S ws vo vw Ds W) (hg : W.grownBy W' row) (hr : ∀ r, row = some r → ¬ RSq w bm Bw vo vw Ds r ∧ w.heap.size ≤ r) : RS w root a n cap bm Bw zs S ws vo vw Ds W' :=
  h.of hg.size (h.below.grown hg h.below.size (fun k e => (hr k e).2)) (fun q hq => hg.block q (h.lt hq) (fun e => (hr q e.symm).1 hq))
end
end Go.Proofs.YtfefggcfeppeiaaGreat
