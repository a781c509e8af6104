/- The model's walk from page to page: it calls itself. -/
import Derived.Test.YtnebhbnogmhbgaaReachZReach
import Derived.Test.YtnebhbnogmhbgaaBookDZReach
namespace Go.Proofs.Ytnebhbnogmhbgaa
open Go.RowKit
attribute [local go_sem ↓] Go.wp_at_zero Go.wp_at_succ

/-- No block has turned but rows of ints. -/
def Turned (w w' : World) : Prop := w.heap.size ≤ w'.heap.size ∧ ∀ (k : Nat) (cs : Array Value) (T : TypeId) (fr : Nat × Nat), w.heap[k]? = some (.cells cs T fr) → T ≠ 3 → w'.heap[k]? = w.heap[k]?
theorem Turned.refl (w : World) : Turned w w := ⟨Nat.le_refl _, fun _ _ _ _ _ _ => rfl⟩
theorem Turned.trans {a b c : World} (h : Turned a b) (k : Turned b c) : Turned a c :=
  ⟨Nat.le_trans h.1 k.1, fun i cs T fr hi hT => (k.2 i cs T fr ((h.2 i cs T fr hi hT).trans hi) hT).trans (h.2 i cs T fr hi hT)⟩
theorem heap_lt {w : World} {k : Nat} {o : Obj} (h : w.heap[k]? = some o) : k < w.heap.size := by
  rw [Array.getElem?_eq_some_iff] at h
  exact h.1
theorem Turned.of_below {w w' : World} (h : Below w.heap.size w w') : Turned w w' := ⟨h.size, fun k _ _ _ hk _ => h.block k (heap_lt hk)⟩
theorem Turned.of_grown {w w' : World} {base s n : Nat} {v : Value} {xs : List Value} (h : w.grownBy w' v.ownBlock) (ho : w.ownsRow base 3 s v n xs) : Turned w w' :=
  ⟨h.size, fun k cs T fr hk hT => h.block k (heap_lt hk) (fun e => TagT.ne (⟨cs, fr, hk⟩ : TagT T w k) ho (Ne.symm hT) k e.symm rfl)⟩
theorem TagT.turned {w w' : World} {T : TypeId} {q : Nat} (h : TagT T w q) (hk : Turned w w') (hT : T ≠ 3) : TagT T w' q := by
  obtain ⟨cs, fr, e⟩ := h
  exact ⟨cs, fr, (hk.2 q cs T fr e hT).trans e⟩
theorem Loc.turned {w w' : World} {T : TypeId} {q : Nat} {cs : Array Value} (h : Loc w q cs) (ht : TagT T w q) (hk : Turned w w') (hT : T ≠ 3) : Loc w' q cs := by
  obtain ⟨cs', fr, e⟩ := ht
  exact h.of hk.1 (hk.2 q cs' T fr e hT)
/-- What a walk leaves: the pages reached, in a row of its own; nothing else has turned but rows of ints behind w0. -/
def Walked (w0 : World) (zs : List Int) (w : World) (e : Ending) (w' : World) : Prop :=
  ∃ v', e = .returned v' ∧ Own .i64 3 w' w0.heap.size v' zs ∧ Below w0.heap.size w0 w' ∧ Turned w w'
theorem walkV_succ (l : List Pg) (f : Nat) (i : Int) (out : List Int) : walkV l (f + 1) i out = if (pageAt l i).used && !(out.contains i) then (kidsP (pageAt l i)).foldl (fun acc x => walkV l f x.id acc) (out ++ [i]) else out := by rw [walkV]
theorem Walked.same {w0 w w' : World} {v : Value} {zs : List Int} (hB : Below w0.heap.size w0 w) (ho : Own .i64 3 w w0.heap.size v zs) (hb : Below w.heap.size w w') : Walked w0 zs w (.returned v) w' :=
  ⟨v, rfl, ho.below hb, hB.trans (hb.mono hB.size), Turned.of_below hb⟩

set_option maxRecDepth 100000 in
set_option maxHeartbeats 3200000 in
theorem l7Walk_any (root : Int) (a : Option Addr) (n cap : Nat) (ps : List PgV) (w0 : World) (h : RdP w0 a n cap ps) (hn : n ≤ 1099511627776) (hw : ∀ p ∈ ps, ∀ x ∈ p.xs, (Lit.int .i64 x.id).wf = true) : ∀ (f : Nat) (i : Int) (v : Value) (zs : List Int) (w : World), Below w0.heap.size w0 w → Own .i64 3 w w0.heap.size v zs → (Lit.int .i64 i).wf = true → OutOk (ps.map PgV.pg) zs → n < f + zs.length →
    Calls Try.prog 74 #[.agg #[.int .i64 root, .slice a n cap], .int .i64 i, v] w (Walked w0 (walkV (ps.map PgV.pg) f i zs) w)
  | 0, i, v, zs, w, hB, ho, hi, hz, hf => by
    have := hz.len
    rw [List.length_map, h.1.1.1] at this
    omega
  | f + 1, i, v, zs, w, hB, ho, hi, hz, hf => by
    obtain ⟨i0, hi0, hz0, hz1, hz2⟩ := info_parts Try.infoI64
    replace hi0 := Lib.hid hi0
    replace hz0 := Lib.hid hz0
    replace hz1 := Lib.hid hz1
    replace hz2 := Lib.hid hz2
    obtain ⟨l0, u0⟩ := bounds_i64 hi
    have hnc := h.1.1.2.1
    have hm := h.1.1.2.2.1
    unfold maxLen at hm
    have HL := Lib.hid h.1.1.1
    have HR := Lib.hid h
    have hzl : zs.length ≤ n := by
      have := hz.len
      rw [List.length_map, h.1.1.1] at this
      exact this
    have IH := Lib.hid (l7Walk_any root a n cap ps w0 h hn hw f)
    have HW := Lib.hid hw
    have HO := Lib.hid ho
    have HB := Lib.hid hB
    have HZ := Lib.hid hz
    obtain ⟨W0, hW0⟩ : ∃ W0, W0 = w.alloc (.cells #[.int .i64 root, .slice a n cap] 26) := ⟨_, rfl⟩
    have b0 : Below w.heap.size w W0 := by subst hW0; exact new_below w _
    have K0 : Loc W0 w.heap.size #[.int .i64 root, .slice a n cap] := by subst hW0; exact Loc.new w _ _
    have s0 : W0.heap.size = w.heap.size + 1 := by subst hW0; simp
    have T0 : TagT 26 W0 w.heap.size := by subst hW0; exact TagT.new _ _ _
    obtain ⟨va, vc, rfl, hr⟩ := Own.rd ho
    have k1 := K0.2.1 1
    simp at k1
    have HR0 := h.below (hB.trans (b0.mono hB.size))
    clear h hw ho hB hz
    by_cases hin : 0 ≤ i ∧ i ≤ (n : Int) - 1
    · obtain ⟨h0, h1⟩ := hin
      obtain ⟨m, rfl⟩ := Int.eq_ofNat_of_zero_le h0
      have z1 : (m : Int) < n := by omega
      obtain ⟨b, off, p, rfl, hbl, hp, hrd, d0, d1, d2⟩ := rdP_at HR0 (show m < n by omega)
      have hv : pageAt (ps.map PgV.pg) m = p.pg := pageAt_yes hp
      cases hu : p.used with
      | false =>
        have hr2 : walkV (ps.map PgV.pg) (f + 1) m zs = zs := by
          rw [walkV_succ]
          rw [hv]
          show (if (p.used && _) = true then _ else _) = _
          rw [hu]
          rfl
        rw [hu] at d0
        rw [hr2]
        clear hv hr2 hp hrd hr
        go_enter Try.func74, Try.ntmps74
        go_wp2_with fail
        rw [← hW0]
        clear hW0
        refine (l1In_yes m 0 ((n : Int) - 1) _ h0 h1).mono ?_
        rintro e w2 ⟨rfl, rfl⟩
        go_wp2
        go_ret
        exact Walked.same HB.out HO.out b0
      | true =>
        rw [hu] at d0
        have CH := Lib.hid (l7Has_any va zs.length vc zs m W0 (hr.below b0))
        cases hc : zs.contains (m : Int) with
        | true =>
          have hr2 : walkV (ps.map PgV.pg) (f + 1) m zs = zs := by
            rw [walkV_succ]
            rw [hc, Bool.not_true, Bool.and_false]
            rfl
          rw [hr2]
          rw [hc] at CH
          clear hv hr2 hp hrd hr
          go_enter Try.func74, Try.ntmps74
          go_wp2_with fail
          rw [← hW0]
          clear hW0
          refine (l1In_yes m 0 ((n : Int) - 1) _ h0 h1).mono ?_
          rintro e w2 ⟨rfl, rfl⟩
          go_wp2_with fail
          refine CH.out.mono ?_
          rintro e w2 ⟨rfl, b2⟩
          go_wp2
          go_ret
          exact Walked.same HB.out HO.out (b0.trans (b2.mono b0.size))
        | false =>
          have hr2 : Hid (walkV (ps.map PgV.pg) (f + 1) m zs = (kidsP p.pg).foldl (fun acc x => walkV (ps.map PgV.pg) f x.id acc) (zs ++ [(m : Int)])) := by
            show walkV _ _ _ _ = _
            rw [walkV_succ]
            rw [hv, hc]
            show (if (p.used && _) = true then _ else _) = _
            rw [hu]
            rfl
          rw [hr2.out]
          rw [hc] at CH
          have HZ2 : Hid (OutOk (ps.map PgV.pg) (zs ++ [(m : Int)])) := Lib.hid (HZ.out.snoc (by rw [List.length_map, HL.out]; omega) hc)
          have hpm := Lib.hid (HW.out p (List.mem_of_getElem? hp))
          have HRD := Lib.hid hrd
          have hpx := Lib.hid hp
          clear hv hp hrd hr hc hu
          go_enter Try.func74, Try.ntmps74
          go_wp2_with fail
          rw [← hW0]
          clear hW0
          refine (l1In_yes m 0 ((n : Int) - 1) _ h0 h1).mono ?_
          rintro e w2 ⟨rfl, rfl⟩
          go_wp2_with fail
          refine CH.out.mono ?_
          rintro e w2 ⟨rfl, b2⟩
          have HO2 := Lib.hid ((HO.out.below b0).below b2)
          have HB2 := Lib.hid ((HB.out.trans (b0.mono HB.out.size)).trans (b2.mono (Nat.le_trans HB.out.size b0.size)))
          have TU2 := Lib.hid ((Turned.of_below b0).trans (Turned.of_below b2))
          have K2 := Lib.hid (K0.below b2)
          have T2 := Lib.hid (T0.of (b2.block _ K0.1))
          have HRD2 := Lib.hid (HRD.out.below b2)
          have p0 := bcell b2
          have e0 := p0.1 b (off + m * 3) hbl
          have e1 := p0.1 b (off + m * 3 + 1) hbl
          have e2 := p0.1 b (off + m * 3 + 1 + 1) hbl
          rw [d0] at e0
          rw [d1] at e1
          rw [d2] at e2
          have s2 := b2.size
          have hb2 : b < w0.heap.size := HR.out.1.lt (by omega) rfl
          have hsB := HB.out.size
          clear d0 d1 d2 b2 b0 K0 T0 CH HRD k1 HR0 hbl p0
          go_wp2_with (at_builtin; refine append_src rfl (.tmp 31) (.tmp 33) 36 rfl w0.heap.size 3 i0 (.int .i64 0) 1 8 Try.underlying36 hi0.out hz0.out hz1.out hz2.out rfl (by decide) (.slice va zs.length vc) zs.length (zs.map (Value.int .i64)) rfl (World.ownsRow.alloc HO2.out _) (some ⟨w2.heap.size, 0, none⟩) 1 1 [.int .i64 (m : Int)] rfl rfl (fun h => by cases h) ?_ (ints_oneCell .i64 [(m : Int)]) ?_ ?_ ?_ ?_)
          case refine_1 =>
            intro q hq
            cases hq
            exact World.news_of_block (cs := #[.int .i64 (m : Int)]) (t := 3) (fr := (0, 0)) (heap_alloc_new w2 _)
          case refine_2 => unfold maxLen; omega
          case refine_3 => omega
          case refine_4 => simp; omega
          intro v3 w3 o3 g3
          obtain ⟨a3, c3, rfl⟩ := owns_shape o3
          have TU3 := Lib.hid (TU2.out.trans ((Turned.of_below (new_below w2 (.cells #[.int .i64 (m : Int)] 3))).trans (Turned.of_grown g3 (World.ownsRow.alloc HO2.out _))))
          have B3 := Lib.hid ((HB2.out.alloc HB2.out.size (.cells #[.int .i64 (m : Int)] 3)).grown g3 (by simp; omega) (fun j hj => by have := (World.ownsRow.lt HO2.out j hj).1; omega))
          have g0 := (Turned.of_below (new_below w2 (.cells #[.int .i64 (m : Int)] 3))).trans (Turned.of_grown g3 (World.ownsRow.alloc HO2.out _))
          have K3 := Lib.hid (K2.out.turned T2.out g0 (by decide))
          have T3 := Lib.hid (T2.out.turned g0 (by decide))
          have O3 : Hid (Own .i64 3 w3 w0.heap.size (.slice a3 (zs.length + 1) c3) (zs ++ [(m : Int)])) := by
            have := o3
            unfold Own
            rw [List.length_append, List.map_append]
            exact Lib.hid this
          have e1' := (B3.out.cell (p := ⟨b, off + m * 3 + 1, none⟩) hb2).trans ((HB2.out.cell (p := ⟨b, off + m * 3 + 1, none⟩) hb2).symm.trans e1)
          have e2' := (B3.out.cell (p := ⟨b, off + m * 3 + 1 + 1, none⟩) hb2).trans ((HB2.out.cell (p := ⟨b, off + m * 3 + 1 + 1, none⟩) hb2).symm.trans e2)
          have c1 := K3.out.2.1 1
          simp at c1
          have hq3 := K3.out.1
          obtain ⟨q1, hq1⟩ : ∃ q, q = w3.heap.size := ⟨_, rfl⟩
          obtain ⟨W4, hW4⟩ : ∃ W4, W4 = w3.alloc (.cells #[.bool p.leaf, .slice p.a p.n p.cap] 32) := ⟨_, rfl⟩
          have b4 : Below w3.heap.size w3 W4 := by subst hW4; exact new_below w3 _
          have KN := Lib.hid (show Loc W4 q1 #[.bool p.leaf, .slice p.a p.n p.cap] by subst hW4; subst hq1; exact Loc.new w3 _ _)
          have TN := Lib.hid (show TagT 32 W4 q1 by subst hW4; subst hq1; exact TagT.new _ _ _)
          have K4 := Lib.hid (K3.out.below b4)
          have T4 := Lib.hid (T3.out.turned (Turned.of_below b4) (by decide))
          have O4 := Lib.hid (O3.out.below b4)
          have B4 := Lib.hid (B3.out.trans (b4.mono B3.out.size))
          have U4 := Lib.hid (TU3.out.trans (Turned.of_below b4))
          clear o3 g3 g0 e0 e1 e2 b4 K3 T3 O3 B3 TU3 HO2 HB2 TU2 K2 T2 HRD2
          have kn0 := KN.out.2.1 0
          have kn1 := KN.out.2.1 1
          simp at kn0 kn1
          cases hlf : p.leaf with
          | true =>
            rw [hlf] at e1'
            have hk : Hid (kidsP p.pg = []) := by
              show kidsP p.pg = []
              unfold kidsP
              exact if_pos hlf
            rw [hlf] at kn0
            rw [hlf] at hW4
            go_wp2_with fail
            rw [← hW4, ← hq1]
            clear hW4 hq1
            go_loopw [2, 8] (fun v i wr => v = .slice a3 (zs.length + 1) c3 ∧ i = .int .i64 0 ∧ wr = W4) (fun _ _ _ => 0)
            case atStart => exact ⟨rfl, rfl, rfl⟩
            case round =>
              obtain ⟨rfl, rfl, rfl⟩ := hrel
              go_wp2
              all_goals
                go_ret
                rw [hk.out]
                refine ⟨_, rfl, ?_, B4.out, U4.out⟩
                have := O4.out
                unfold Own at this ⊢
                exact this
          | false =>
            rw [hlf] at e1'
            rw [hlf] at kn0
            rw [hlf] at hW4
            have hk : Hid (kidsP p.pg = p.xs) := by
              show kidsP p.pg = p.xs
              unfold kidsP
              exact if_neg (by rw [show p.pg.leaf = p.leaf from rfl, hlf]; exact Bool.false_ne_true)
            rw [hlf] at KN
            have HRD := Lib.hid (HR.out.2 p (List.mem_of_getElem? hpx.out))
            have HPN := Lib.hid HRD.out.1.1
            have hpc := HRD.out.1.2.1
            have hpm2 := HRD.out.1.2.2.1
            unfold maxLen at hpm2
            go_wp2_with fail
            rw [← hW4, ← hq1]
            clear hW4 hq1 kn0 kn1 c1 e1' e2' hq3
            go_loopw [2, 8] (fun v i wr => ∃ (k : Nat) (va : Option Addr) (vc na : Nat) (acc : List Int), k ≤ p.n ∧ v = .slice va na vc ∧ i = .int .i64 (k : Int) ∧ Hid (acc.length = na) ∧ Hid (acc = (p.xs.take k).foldl (fun acc x => walkV (ps.map PgV.pg) f x.id acc) (zs ++ [(m : Int)])) ∧ Hid (OutOk (ps.map PgV.pg) acc) ∧ Hid (zs.length + 1 ≤ acc.length) ∧ Hid (Own .i64 3 wr w0.heap.size (.slice va na vc) acc) ∧ Hid (Loc wr w.heap.size #[.int .i64 root, .slice (some ⟨b, off, none⟩) n cap]) ∧ Hid (TagT 26 wr w.heap.size) ∧ Hid (Loc wr q1 #[.bool false, .slice p.a p.n p.cap]) ∧ Hid (TagT 32 wr q1) ∧ Hid (Below w0.heap.size w0 wr) ∧ Hid (Turned w wr)) (fun _ i _ => p.n - (intOf i).toNat)
            case atStart =>
              exact ⟨0, a3, c3, zs.length + 1, _, Nat.zero_le _, rfl, rfl, Lib.hid (by simp), Lib.hid rfl, HZ2, Lib.hid (by simp), O4, K4, T4, KN, TN, B4, U4⟩
            case round =>
              clear O4 K4 T4 KN TN B4 U4
              obtain ⟨k, va5, vc5, na, acc, hk5, rfl, rfl, HNA, HACC, HOK, HLE, O5, K5, T5, KN5, TN5, B5, U5⟩ := hrel
              have c1 := K5.out.2.1 1
              have c0 := K5.out.2.1 0
              have n0 := KN5.out.2.1 0
              have n1 := KN5.out.2.1 1
              simp at c0 c1 n0 n1
              by_cases hlt : k < p.n
              · obtain ⟨bb, offb, x, hea, hbl, hx, d0, d1, d2, d3, d4⟩ := rdIt_at (HRD.out.below B5.out) hlt
                rw [hea] at n1
                have z2 : (k : Int) < p.n := by omega
                have hbb : bb < w0.heap.size := HRD.out.lt (by omega) hea
                have hwx := hpm.out x (List.mem_of_getElem? hx)
                have CI := IH.out x.id (.slice va5 na vc5) acc wr.drew B5.out.drew (O5.out.below (drew_below _)) hwx HOK.out (by have := HLE.out; omega)
                obtain ⟨acc2, hacc2⟩ : ∃ acc2, walkV (ps.map PgV.pg) f x.id acc = acc2 := ⟨_, rfl⟩
                rw [hacc2] at CI
                replace CI := Lib.hid CI
                have HOK2 : Hid (OutOk (ps.map PgV.pg) acc2) := by rw [← hacc2]; exact Lib.hid (walkV_ok _ f x.id acc HOK.out).1
                have HLE2 : Hid (zs.length + 1 ≤ acc2.length) := by
                  obtain ⟨tt, e⟩ := (walkV_ok (ps.map PgV.pg) f x.id acc HOK.out).2
                  rw [hacc2] at e
                  have := HLE.out
                  refine Lib.hid ?_
                  rw [e, List.length_append]
                  omega
                have HACC2 : Hid (acc2 = (p.xs.take (k + 1)).foldl (fun acc x => walkV (ps.map PgV.pg) f x.id acc) (zs ++ [(m : Int)])) := by
                  show acc2 = _
                  rw [List.take_add_one, hx, List.foldl_append, ← HACC.out, ← hacc2]
                  rfl
                have KS : Hid (∀ V, Below w0.heap.size w0 V → Turned wr V → (fun V => Below w0.heap.size w0 V ∧ Turned wr V ∧ V.cell? ⟨w.heap.size, 0, none⟩ = some (.int .i64 root) ∧ V.cell? ⟨w.heap.size, 1, none⟩ = some (.slice (some ⟨b, off, none⟩) n cap) ∧ V.cell? ⟨q1, 1, none⟩ = some (.slice (some ⟨bb, offb, none⟩) p.n p.cap) ∧ V.cell? ⟨bb, offb + k * 5, none⟩ = some (.int .i64 x.id)) V) := Lib.hid (fun V b u => ⟨b, u, ((K5.out.turned T5.out u (by decide)).2.1 0).trans rfl, ((K5.out.turned T5.out u (by decide)).2.1 1).trans rfl, ((KN5.out.turned TN5.out u (by decide)).2.1 1).trans (by rw [hea]; rfl), (b.cell (p := ⟨bb, offb + k * 5, none⟩) hbb).trans ((B5.out.cell (p := ⟨bb, offb + k * 5, none⟩) hbb).symm.trans d0)⟩)
                have TD := Lib.hid (Turned.of_below (drew_below wr))
                have BD := Lib.hid B5.out.drew
                replace hea := Lib.hid hea
                clear hx hacc2
                go_wp2_with fail
                go_region_held3 (fun V => Below w0.heap.size w0 V ∧ Turned wr V ∧ V.cell? ⟨w.heap.size, 0, none⟩ = some (.int .i64 root) ∧ V.cell? ⟨w.heap.size, 1, none⟩ = some (.slice (some ⟨b, off, none⟩) n cap) ∧ V.cell? ⟨q1, 1, none⟩ = some (.slice (some ⟨bb, offb, none⟩) p.n p.cap) ∧ V.cell? ⟨bb, offb + k * 5, none⟩ = some (.int .i64 x.id))
                  (first | exact KS.out _ BD.out TD.out | exact KS.out _ b6 (TD.out.trans u6))
                  (first | (go_at_call 74; (with_reducible refine CI.out.mono ?_); rintro e w6 ⟨v6, rfl, o6, b6, u6⟩; obtain ⟨a6, c6, rfl, -⟩ := Own.rd o6))
                have TT := Lib.hid (TD.out.trans u6)
                have O6 := Lib.hid o6
                have B6 := Lib.hid b6
                have K6 := Lib.hid (K5.out.turned T5.out TT.out (by decide))
                have T6 := Lib.hid (T5.out.turned TT.out (by decide))
                have KN6 := Lib.hid (KN5.out.turned TN5.out TT.out (by decide))
                have TN6 := Lib.hid (TN5.out.turned TT.out (by decide))
                have U6 := Lib.hid (U5.out.trans TT.out)
                clear o6 b6 u6 KS CI
                go_wp2
                go_roundw
                case rel => exact ⟨k + 1, a6, c6, _, acc2, by omega, rfl, by go_num, Lib.hid rfl, HACC2, HOK2, HLE2, O6, K6, T6, KN6, TN6, B6, U6⟩
                case measure => simp [intOf]; omega
              · obtain rfl : k = p.n := by omega
                have hall : Hid (p.xs.take p.n = p.xs) := Lib.hid (List.take_of_length_le (by rw [HPN.out]; exact Nat.le_refl _))
                go_wp2
                go_ret
                rw [hk.out, ← hall.out, ← HACC.out]
                exact ⟨_, rfl, O5.out, B5.out, U5.out⟩
    · have hr2 : walkV (ps.map PgV.pg) (f + 1) i zs = zs := by
        rw [walkV_succ]
        rw [pageAt_no (by rw [List.length_map, HL.out]; exact hin)]
        rfl
      rw [hr2]
      clear hr2 hr
      go_enter Try.func74, Try.ntmps74
      go_wp2_with fail
      rw [← hW0]
      clear hW0
      refine (l1In_no i 0 ((n : Int) - 1) _ hin).mono ?_
      rintro e w2 ⟨rfl, rfl⟩
      go_wp2
      go_ret
      exact Walked.same HB.out HO.out b0

set_option maxRecDepth 100000 in
set_option maxHeartbeats 400000 in
/-- The model's Reach. -/
theorem sReach_any (root : Int) (a : Option Addr) (n cap : Nat) (ps : List PgV) (w : World) (h : RdP w a n cap ps) (hn : n ≤ 1099511627776) (hr : (Lit.int .i64 root).wf = true) (hw : ∀ p ∈ ps, ∀ x ∈ p.xs, (Lit.int .i64 x.id).wf = true) :
    Calls Try.prog 36 #[.agg #[.int .i64 root, .slice a n cap]] w fun e w' => ∃ v, e = .returned v ∧ Own .i64 3 w' w.heap.size v (reachV (ps.map PgV.pg) root) ∧ Below w.heap.size w w' := by
  have HL := h.1.1.1
  obtain ⟨W0, hW0⟩ : ∃ W0, W0 = w.alloc (.cells #[.int .i64 root, .slice a n cap] 26) := ⟨_, rfl⟩
  have b0 : Below w.heap.size w W0 := by subst hW0; exact new_below w _
  obtain ⟨W1, hW1⟩ : ∃ W1, W1 = W0.alloc (.cells #[] 3) := ⟨_, rfl⟩
  have b1 : Below W0.heap.size W0 W1 := by subst hW1; exact new_below W0 _
  have s0 : W0.heap.size = w.heap.size + 1 := by subst hW0; simp
  have O1 : Own .i64 3 W1 W0.heap.size (.slice (some ⟨W0.heap.size, 0, none⟩) 0 0) [] := by subst hW1; exact own_nil W0 3 1 W0.heap.size W0.heap.size rfl (Nat.le_refl _)
  have C := Lib.hid (l7Walk_any root a n cap ps W0 (h.below b0) hn hw (n + 1) root (.slice (some ⟨W0.heap.size, 0, none⟩) 0 0) [] W1 b1 O1 hr ⟨List.nodup_nil, fun z hz => by cases hz⟩ (by simp))
  have e : reachV (ps.map PgV.pg) root = walkV (ps.map PgV.pg) (n + 1) root [] := by
    unfold reachV
    rw [List.length_map, HL]
  rw [e]
  have K0 : W0.cell? ⟨w.heap.size, 0, none⟩ = some (.int .i64 root) ∧ W0.cell? ⟨w.heap.size, 1, none⟩ = some (.slice a n cap) := by subst hW0; exact ⟨(blk_new w _ _).1 0, (blk_new w _ _).1 1⟩
  obtain ⟨k0, k1⟩ := K0
  clear h
  go_enter Try.func36, Try.ntmps36
  go_wp2_with fail
  rw [← hW0]
  rw [← s0, ← hW1]
  clear hW0 hW1
  refine C.out.mono ?_
  rintro e w3 ⟨v3, rfl, o3, b3, -⟩
  have O3 := Lib.hid o3
  have B3 := Lib.hid (b0.trans (b3.mono b0.size))
  clear o3 b3 C
  go_wp2
  go_ret
  exact ⟨_, rfl, O3.out.mono (by omega), B3.out⟩
end Go.Proofs.Ytnebhbnogmhbgaa
