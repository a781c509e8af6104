/- The program's Find. -/
import Derived.Test.YtfefggcfeppeiaaGreatLookI4ZLooks
namespace Go.Proofs.YtfefggcfeppeiaaGreat
open Go.RowKit Go.Shelf
attribute [local go_sem] Oper.semAt_some

theorem at_none {id : Int} : ∀ (l : List It) (k : Int), (∀ y ∈ l, y.id ≠ id) → atV id l k = -1
  | [], _, _ => rfl
  | x :: l, k, h => by
    unfold atV
    rw [if_neg (h x List.mem_cons_self)]
    exact at_none l (k + 1) (fun y hy => h y (List.mem_cons_of_mem _ hy))
theorem at_some {id : Int} {x : It} {t : List It} (hx : x.id = id) : ∀ (l : List It) (k : Int), (∀ y ∈ l, y.id ≠ id) → atV id (l ++ x :: t) k = k + (l.length : Int)
  | [], k, _ => by
    show atV id (x :: t) k = _
    unfold atV
    rw [if_pos hx]
    simp
  | y :: l, k, h => by
    show atV id (y :: (l ++ x :: t)) k = _
    unfold atV
    rw [if_neg (h y List.mem_cons_self), at_some hx l (k + 1) (fun z hz => h z (List.mem_cons_of_mem _ hz)), List.length_cons]
    omega
theorem find_none {l : List Pg} {root id : Int} (h : ∀ y ∈ allV l root, y.id ≠ id) : findV l root id = (⟨0, 0, 0, 0⟩, false) := by
  unfold findV
  rw [at_none _ 0 h, if_pos (by decide)]
theorem find_some {l : List Pg} {root id : Int} {pre t : List It} {x : It} (he : pre ++ [x] ++ t = allV l root) (hx : x.id = id) (h : ∀ y ∈ pre, y.id ≠ id) : findV l root id = (boxOf x, true) := by
  unfold findV
  have e : allV l root = pre ++ x :: t := by rw [← he]; simp
  rw [e, at_some hx pre 0 h, if_neg (by omega)]
  have e2 : ((0 : Int) + (pre.length : Int)).toNat = pre.length := by omega
  rw [e2, List.getElem?_append_right (Nat.le_refl _), Nat.sub_self]
  rfl
theorem Loc.turn {W W' : World} {q A : Nat} {cs : Array Value} {row : Option Nat} (h : Loc W q cs) (hg : W.grownBy W' row) (hr : ∀ r, row = some r → A ≤ r ∧ ∃ o : Obj, W.heap[r]? = some o ∧ o.isCells = false) (hA : q < A) : Loc W' q cs :=
  h.of hg.size (hg.block q h.1 (fun e => by have := (hr q e.symm).1; omega))
theorem below_turn {n A : Nat} {w W W' : World} {row : Option Nat} (h : Below n w W) (hn : n ≤ w.heap.size) (hA : n ≤ A) (hg : W.grownBy W' row) (hr : ∀ r, row = some r → A ≤ r ∧ ∃ o : Obj, W.heap[r]? = some o ∧ o.isCells = false) : Below n w W' :=
  h.grown hg (Nat.le_trans hn h.size) (fun k e => Nat.le_trans hA (hr k e).1)

set_option maxRecDepth 100000 in
set_option maxHeartbeats 3200000 in
theorem iFind_any : CFind 8 := by
  intro root id a n cap ps w h hn hp ht
  obtain ⟨W4, hW4⟩ : ∃ W4, W4 = (((w.alloc (.cells #[.int .i64 root, .slice a n cap] 26)).alloc (.cells #[.int .i64 id] 3)).alloc (.cells #[.int .i64 0, .int .i64 0, .int .i64 0, .int .i64 0] 28)).alloc (.cells #[.bool false] 4) := ⟨_, rfl⟩
  obtain ⟨W5, hW5⟩ : ∃ W5, W5 = W4.alloc (.cells #[.int .i64 root, .slice a n cap] 26) := ⟨_, rfl⟩
  have b4 : Below w.heap.size w W4 := by subst hW4; exact ((((Below.refl _ _).alloc (Nat.le_refl _) _).alloc (by simp) _).alloc (by simp; omega) _).alloc (by simp; omega) _
  have s4 : W4.heap.size = w.heap.size + 1 + 1 + 1 + 1 := by subst hW4; simp
  have b5 : Below W4.heap.size W4 W5 := by subst hW5; exact new_below _ _
  have s5 : W5.heap.size = w.heap.size + 1 + 1 + 1 + 1 + 1 := by subst hW5; simp [s4]
  have LB : Loc W4 (w.heap.size + 1) #[.int .i64 id] := by
    subst hW4
    have := ((Loc.new (w.alloc (.cells #[.int .i64 root, .slice a n cap] 26)) #[.int .i64 id] 3).alloc (.cells #[.int .i64 0, .int .i64 0, .int .i64 0, .int .i64 0] 28)).alloc (.cells #[.bool false] 4)
    rwa [World.size_alloc] at this
  have LR : Loc W4 (w.heap.size + 1 + 1) #[.int .i64 0, .int .i64 0, .int .i64 0, .int .i64 0] := by
    subst hW4
    have := (Loc.new ((w.alloc (.cells #[.int .i64 root, .slice a n cap] 26)).alloc (.cells #[.int .i64 id] 3)) #[.int .i64 0, .int .i64 0, .int .i64 0, .int .i64 0] 28).alloc (.cells #[.bool false] 4)
    rwa [World.size_alloc, World.size_alloc] at this
  have LO : Loc W4 (w.heap.size + 1 + 1 + 1) #[.bool false] := by
    subst hW4
    have := Loc.new (((w.alloc (.cells #[.int .i64 root, .slice a n cap] 26)).alloc (.cells #[.int .i64 id] 3)).alloc (.cells #[.int .i64 0, .int .i64 0, .int .i64 0, .int .i64 0] 28)) #[.bool false] 4
    rwa [World.size_alloc, World.size_alloc, World.size_alloc] at this
  have LB5 := LB.below b5
  have hm : ∀ k, Mine (w.heap.size + 1) W5 k → k = w.heap.size + 1 := fun k hk => by
    rcases hk with e | ⟨v, hv, hown⟩
    · exact e
    · have := LB5.2.1 0
      rw [this] at hv
      simp at hv
      subst hv
      cases hown
  have hHq : HeldB (w.heap.size + 1) W5 W4.heap.size #[.int .i64 root, .slice a n cap] 26 := ⟨by subst hW5; exact heap_alloc_new _ _, fun h => by have := hm _ h; omega⟩
  have ST := items1_any root a n cap ps w h hn hp ht (w.heap.size + 1) W4.heap.size W5 hHq (b4.trans (b5.mono b4.size)) (fun k hk => by have := hm k hk; omega) (by omega)
  have I0 : Loc W5 (w.heap.size + 1) #[.int .i64 id] ∧ Loc W5 (w.heap.size + 1 + 1) #[.int .i64 0, .int .i64 0, .int .i64 0, .int .i64 0] ∧ Loc W5 (w.heap.size + 1 + 1 + 1) #[.bool false] ∧ Below w.heap.size w W5 := ⟨LB5, LR.below b5, LO.below b5, b4.trans (b5.mono b4.size)⟩
  obtain ⟨q, hq⟩ : ∃ q, q = W4.heap.size := ⟨_, rfl⟩
  rw [← hq] at ST
  clear hHq hm LB LR LO LB5 b4 b5 h hp ht
  refine (callsIn_wide (n := 4)).1 ?_
  refine callsIn_of_wp_marks Tryz.func8 rfl trivial ?_ rfl
  simp only [Tryz.ntmps8, List.size_toArray, List.length_cons, List.length_nil, Nat.reduceAdd, Nat.reduceSub, Array.replicate_succ, Array.replicate_zero, List.push_toArray, List.append_toArray, List.nil_append, List.cons_append]
  clear s4
  gi_wp2_with fail
  rw [← hW4]
  refine ⟨trivial, (callsIn_wide.2 (iItemsSeq_any root a n cap W4)).mono ?_⟩
  rintro e w3 ⟨rfl, rfl⟩
  rw [← hW5]
  clear hW4 hW5
  gi_wp2_with fail
  rw [← hq]
  clear hq
  refine range_O (gf := 62) (lb := #[.pointer (some ⟨q, 0, none⟩)]) rfl (enters_of Tryz.func62 (by kernel_rfl) rfl) ST (fun h k => h.trans k)
    (fun V l o o' hl h1 h2 _ => KpB.putObj o' h1 h2 (by omega) (by omega)) (Below.refl _ _) (fun _ => rfl)
    (fun pre V => (∀ y ∈ pre, y.id ≠ id) ∧ Loc V (w.heap.size + 1) #[.int .i64 id] ∧ Loc V (w.heap.size + 1 + 1) #[.int .i64 0, .int .i64 0, .int .i64 0, .int .i64 0] ∧ Loc V (w.heap.size + 1 + 1 + 1) #[.bool false] ∧ Below w.heap.size w V)
    (fun pre V => ∃ x pre', pre = pre' ++ [x] ∧ x.id = id ∧ (∀ y ∈ pre', y.id ≠ id) ∧ Loc V (w.heap.size + 1 + 1) #[.int .i64 x.x0, .int .i64 x.y0, .int .i64 x.x1, .int .i64 x.y1] ∧ Loc V (w.heap.size + 1 + 1 + 1) #[.bool true] ∧ Below w.heap.size w V) ?hI ?hIx ⟨(fun y hy => by cases hy), I0⟩
    (fun x a' V => ∃ Bx, V.heap[Bx]? = some (.cells #[.int .i64 x.id, .int .i64 x.x0, .int .i64 x.y0, .int .i64 x.x1, .int .i64 x.y1] 47 (0, 0)) ∧ a' = { tmps := #[.agg #[.int .i64 root, .slice a n cap], .int .i64 id, .pointer (some ⟨w.heap.size, 0, none⟩), .pointer (some ⟨w.heap.size + 1, 0, none⟩), .pointer (some ⟨w.heap.size + 1 + 1, 0, none⟩), .pointer (some ⟨w.heap.size + 1 + 1 + 1, 0, none⟩), .pointer (some ⟨Bx, 0, none⟩), .agg #[.int .i64 root, .slice a n cap], .func (.func 62) #[] #[.pointer (some ⟨q, 0, none⟩)], .agg #[.int .i64 x.id, .int .i64 x.x0, .int .i64 x.y0, .int .i64 x.x1, .int .i64 x.y1], undef, undef, undef, undef, undef, undef, undef], defers := [] }) ?hAx ?assign ?body ?done ?stop
  case hI =>
    rintro pre V V' row ⟨h0, h1, h2, h3, h4⟩ hg hr
    exact ⟨h0, h1.turn hg hr (by omega), h2.turn hg hr (by omega), h3.turn hg hr (by omega), below_turn h4 (Nat.le_refl _) (by omega) hg hr⟩
  case hIx =>
    rintro pre V V' row ⟨x, pre', h0, h1, h2, h3, h4, h5⟩ hg hr
    exact ⟨x, pre', h0, h1, h2, h3.turn hg hr (by omega), h4.turn hg hr (by omega), below_turn h5 (Nat.le_refl _) (by omega) hg hr⟩
  case hAx =>
    rintro x a' _ V V' row ⟨Bx, h1, h2⟩ hg hr
    refine ⟨Bx, (hg.block Bx (heap_lt h1) (fun e => ?_)).trans h1, h2⟩
    obtain ⟨-, ob, ho, hc⟩ := hr Bx e.symm
    rw [h1] at ho
    cases ho
    cases hc
  case assign =>
    rintro l pre x V K ⟨h0, h1, h2, h3, h4⟩ hK
    have hal := new_below V (.cells #[.int .i64 x.id, .int .i64 x.x0, .int .i64 x.y0, .int .i64 x.x1, .int .i64 x.y1] 47)
    have hres := hK { tmps := #[.agg #[.int .i64 root, .slice a n cap], .int .i64 id, .pointer (some ⟨w.heap.size, 0, none⟩), .pointer (some ⟨w.heap.size + 1, 0, none⟩), .pointer (some ⟨w.heap.size + 1 + 1, 0, none⟩), .pointer (some ⟨w.heap.size + 1 + 1 + 1, 0, none⟩), .pointer (some ⟨V.heap.size, 0, none⟩), .agg #[.int .i64 root, .slice a n cap], .func (.func 62) #[] #[.pointer (some ⟨q, 0, none⟩)], .agg #[.int .i64 x.id, .int .i64 x.x0, .int .i64 x.y0, .int .i64 x.x1, .int .i64 x.y1], undef, undef, undef, undef, undef, undef, undef], defers := [] } _ ((KeepsOthers.alloc V _).from _) (KpB.all hal h4.size h1.1) ⟨h0, h1.below hal, h2.below hal, h3.below hal, h4.trans (hal.mono h4.size)⟩ ⟨V.heap.size, heap_alloc_new _ _, rfl⟩
    clear hK hal
    dsimp only [itEnc]
    gi_wp2
    exact hres
  case body =>
    rintro l pre x a' V hl ⟨h0, h1, h2, h3, h4⟩ ⟨Bx, hx, rfl⟩ hlen
    have hxc : ∀ o, V.cell? ⟨Bx, o, none⟩ = (#[Value.int .i64 x.id, .int .i64 x.x0, .int .i64 x.y0, .int .i64 x.x1, .int .i64 x.y1] : Array Value)[o]? := fun o => by simp [World.cell?, hx]
    have x0 := hxc 0
    have x1 := hxc 1
    have x2 := hxc 2
    have x3 := hxc 3
    have x4 := hxc 4
    have k0 := h1.2.1 0
    have r0 := h2.2.1 0
    have r1 := h2.2.1 1
    have r2 := h2.2.1 2
    have r3 := h2.2.1 3
    have s0 := h3.2.1 0
    simp at x0 x1 x2 x3 x4 k0 r0 r1 r2 r3 s0
    have fr0 := h2.2.2 0
    have fr1 := h2.2.2 1
    have fr2 := h2.2.2 2
    have fr3 := h2.2.2 3
    have fs0 := h3.2.2 0
    have HI := Lib.hid (show (∀ y ∈ pre, y.id ≠ id) ∧ Loc V (w.heap.size + 1) #[.int .i64 id] ∧ Loc V (w.heap.size + 1 + 1) #[.int .i64 0, .int .i64 0, .int .i64 0, .int .i64 0] ∧ Loc V (w.heap.size + 1 + 1 + 1) #[.bool false] ∧ Below w.heap.size w V from ⟨h0, h1, h2, h3, h4⟩)
    clear h0 h1 h2 h3 h4 hxc hx
    cases hid : x.id == id with
    | false =>
      have HN : Hid (x.id ≠ id) := Lib.hid (by simpa using hid)
      gi_wp2
      obtain ⟨h0, h1, h2, h3, h4⟩ := HI.out
      refine ⟨KeepsFrom.refl _ _, KpB.refl _ _ _, fun y hy => ?_, h1, h2, h3, h4⟩
      rcases List.mem_append.1 hy with hy | hy
      · exact h0 y hy
      · obtain rfl : y = x := by simpa using hy
        exact HN.out
    | true =>
      have HE : Hid (x.id = id) := Lib.hid (by simpa using hid)
      gi_wp2
      obtain ⟨h0, h1, h2, h3, h4⟩ := HI.out
      have L4 := ((((h2.set 0 (.int .i64 x.x0) (by simp)).set 1 (.int .i64 x.y0) (by simp)).set 2 (.int .i64 x.x1) (by simp)).set 3 (.int .i64 x.y1) (by simp)).other (p := w.heap.size + 1 + 1 + 1) 0 (.bool true) (by omega)
      have L5 := ((((h3.other (p := w.heap.size + 1 + 1) 0 (.int .i64 x.x0) (by omega)).other (p := w.heap.size + 1 + 1) 1 (.int .i64 x.y0) (by omega)).other (p := w.heap.size + 1 + 1) 2 (.int .i64 x.x1) (by omega)).other (p := w.heap.size + 1 + 1) 3 (.int .i64 x.y1) (by omega)).set 0 (.bool true) (by simp)
      have B5 := ((((h4.setCell (p := ⟨w.heap.size + 1 + 1, 0, none⟩) (by show w.heap.size ≤ w.heap.size + 1 + 1; omega) (.int .i64 x.x0)).setCell (p := ⟨w.heap.size + 1 + 1, 1, none⟩) (by show w.heap.size ≤ w.heap.size + 1 + 1; omega) (.int .i64 x.y0)).setCell (p := ⟨w.heap.size + 1 + 1, 2, none⟩) (by show w.heap.size ≤ w.heap.size + 1 + 1; omega) (.int .i64 x.x1)).setCell (p := ⟨w.heap.size + 1 + 1, 3, none⟩) (by show w.heap.size ≤ w.heap.size + 1 + 1; omega) (.int .i64 x.y1)).setCell (p := ⟨w.heap.size + 1 + 1 + 1, 0, none⟩) (by show w.heap.size ≤ w.heap.size + 1 + 1 + 1; omega) (.bool true)
      simp at L4 L5
      exact ⟨(((((KeepsOthers.setCell _ _ _).trans (KeepsOthers.setCell _ _ _)).trans (KeepsOthers.setCell _ _ _)).trans (KeepsOthers.setCell _ _ _)).trans (KeepsOthers.setCell _ _ _)).from _, x, pre, rfl, HE.out, h0, L4, L5, B5⟩
  case done =>
    rintro D ys V hD rfl ⟨h0, h1, h2, h3, h4⟩ hK
    have HV := Lib.hid (find_none h0)
    have r0 := h2.2.1 0
    have r1 := h2.2.1 1
    have r2 := h2.2.1 2
    have r3 := h2.2.1 3
    have s0 := h3.2.1 0
    simp at r0 r1 r2 r3 s0
    have fr0 := h2.2.2 0
    have fr1 := h2.2.2 1
    have fr2 := h2.2.2 2
    have fr3 := h2.2.2 3
    have fs0 := h3.2.2 0
    have HB := Lib.hid h4
    have H2 := Lib.hid h2
    have H3 := Lib.hid h3
    clear h0 h1 h2 h3 h4
    obtain ⟨WV, hWV⟩ : ∃ WV, WV = ((((V.setCell ⟨w.heap.size + 1 + 1, 0, none⟩ (.int .i64 0)).setCell ⟨w.heap.size + 1 + 1, 1, none⟩ (.int .i64 0)).setCell ⟨w.heap.size + 1 + 1, 2, none⟩ (.int .i64 0)).setCell ⟨w.heap.size + 1 + 1, 3, none⟩ (.int .i64 0)).setCell ⟨w.heap.size + 1 + 1 + 1, 0, none⟩ (.bool false) := ⟨_, rfl⟩
    have L4 : Loc WV (w.heap.size + 1 + 1) #[.int .i64 0, .int .i64 0, .int .i64 0, .int .i64 0] := by
      have := ((((H2.out.set 0 (.int .i64 0) (by simp)).set 1 (.int .i64 0) (by simp)).set 2 (.int .i64 0) (by simp)).set 3 (.int .i64 0) (by simp)).other (p := w.heap.size + 1 + 1 + 1) 0 (.bool false) (by omega)
      simp at this
      rw [hWV]
      exact this
    have L5 : Loc WV (w.heap.size + 1 + 1 + 1) #[.bool false] := by
      have := ((((H3.out.other (p := w.heap.size + 1 + 1) 0 (.int .i64 0) (by omega)).other (p := w.heap.size + 1 + 1) 1 (.int .i64 0) (by omega)).other (p := w.heap.size + 1 + 1) 2 (.int .i64 0) (by omega)).other (p := w.heap.size + 1 + 1) 3 (.int .i64 0) (by omega)).set 0 (.bool false) (by simp)
      simp at this
      rw [hWV]
      exact this
    have HB2 : Hid (Below w.heap.size w WV) := by
      rw [hWV]
      exact Lib.hid (((((HB.out.setCell (p := ⟨w.heap.size + 1 + 1, 0, none⟩) (by show w.heap.size ≤ w.heap.size + 1 + 1; omega) _).setCell (p := ⟨w.heap.size + 1 + 1, 1, none⟩) (by show w.heap.size ≤ w.heap.size + 1 + 1; omega) _).setCell (p := ⟨w.heap.size + 1 + 1, 2, none⟩) (by show w.heap.size ≤ w.heap.size + 1 + 1; omega) _).setCell (p := ⟨w.heap.size + 1 + 1, 3, none⟩) (by show w.heap.size ≤ w.heap.size + 1 + 1; omega) _).setCell (p := ⟨w.heap.size + 1 + 1 + 1, 0, none⟩) (by show w.heap.size ≤ w.heap.size + 1 + 1 + 1; omega) _)
    have hK2 : WV.heap[D]? = some (.deferred (some [])) := by
      rw [hWV]
      exact (((((KeepsOthers.setCell _ _ _).trans (KeepsOthers.setCell _ _ _)).trans (KeepsOthers.setCell _ _ _)).trans (KeepsOthers.setCell _ _ _)).trans (KeepsOthers.setCell _ _ _)).same D _ hK rfl
    gi_wp2
    rw [← hWV]
    have hs5 := HB2.out.size
    have P4 := L4.of (W' := WV.putObj D (.deferred none)) (grownBy_putObj' WV D _).size (World.putObj_heap_other (by omega))
    have P5 := L5.of (W' := WV.putObj D (.deferred none)) (grownBy_putObj' WV D _).size (World.putObj_heap_other (by omega))
    have c0 := P4.2.1 0
    have c1 := P4.2.1 1
    have c2 := P4.2.1 2
    have c3 := P4.2.1 3
    have c4 := P5.2.1 0
    simp at c0 c1 c2 c3 c4
    refine ⟨by simp, .inl ⟨_, _, rfl, run_takeDeferred hK2, ?_⟩⟩
    exact ⟨.tuple #[.agg #[.int .i64 0, .int .i64 0, .int .i64 0, .int .i64 0], .bool false], by simp [results, Tryz.results8, go_sem, c0, c1, c2, c3, c4], by rw [HV.out]; exact ⟨rfl, HB2.out.grown (grownBy_putObj' _ D _) (by omega) (fun k e => by cases e; omega)⟩⟩
  case stop =>
    rintro D pre V hD ⟨t, ht⟩ ⟨x, pre', rfl, hx, h0, h2, h3, h4⟩ hK
    have HV := Lib.hid (find_some ht hx h0)
    rw [HV.out]
    have r0 := h2.2.1 0
    have r1 := h2.2.1 1
    have r2 := h2.2.1 2
    have r3 := h2.2.1 3
    have s0 := h3.2.1 0
    simp at r0 r1 r2 r3 s0
    have L4 := h2
    have L5 := h3
    have HB2 := Lib.hid h4
    have hK2 := hK
    obtain ⟨WV, hWV⟩ : ∃ WV, WV = V := ⟨_, rfl⟩
    rw [← hWV] at L4 L5 HB2 hK2
    clear h0 h2 h3 h4 HV
    gi_wp2
    rw [← hWV]
    have hs5 := HB2.out.size
    have P4 := L4.of (W' := WV.putObj D (.deferred none)) (grownBy_putObj' WV D _).size (World.putObj_heap_other (by omega))
    have P5 := L5.of (W' := WV.putObj D (.deferred none)) (grownBy_putObj' WV D _).size (World.putObj_heap_other (by omega))
    have c0 := P4.2.1 0
    have c1 := P4.2.1 1
    have c2 := P4.2.1 2
    have c3 := P4.2.1 3
    have c4 := P5.2.1 0
    simp at c0 c1 c2 c3 c4
    refine ⟨by simp, .inl ⟨_, _, rfl, run_takeDeferred hK2, ?_⟩⟩
    exact ⟨.tuple #[.agg #[.int .i64 x.x0, .int .i64 x.y0, .int .i64 x.x1, .int .i64 x.y1], .bool true], by simp [results, Tryz.results8, go_sem, c0, c1, c2, c3, c4], rfl, HB2.out.grown (grownBy_putObj' _ D _) (by omega) (fun k e => by cases e; omega)⟩
end Go.Proofs.YtfefggcfeppeiaaGreat
