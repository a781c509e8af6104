/- The model's search of a page and of what lies below it. -/
import Derived.Test.YtfefggcfeppeiaaGreatLookMZLooks
namespace Go.Proofs.YtfefggcfeppeiaaGreat
open Go.RowKit
attribute [local go_sem ↓] Go.wp_at_zero Go.wp_at_succ

/-- What a search holds in a round: its boxes, the node's, the items found. -/
structure SL (w : World) (root : Int) (a : Option Addr) (n cap : Nat) (c : Bx) (q : Nat) (b : Bool) (s : Value) (v : Value) (acc : List It) (W : World) : Prop where
  bk : Loc W w.heap.size #[.int .i64 root, .slice a n cap]
  bx : Loc W (w.heap.size + 1) #[.int .i64 c.x0, .int .i64 c.y0, .int .i64 c.x1, .int .i64 c.y1]
  nd : Loc W q #[.bool b, s]
  tn : TagT 59 W q
  own : OwnS itLay 47 W (w.heap.size + 1 + 1) v acc
  below : Below w.heap.size w W
section
variable {w W W' : World} {root : Int} {a : Option Addr} {n cap : Nat} {c : Bx} {q : Nat} {b : Bool} {s v : Value} {acc : List It}
theorem SL.kept (h : SL w root a n cap c q b s v acc W) (hb : Below W.heap.size W W') : SL w root a n cap c q b s v acc W' :=
  ⟨h.bk.below hb, h.bx.below hb, h.nd.below hb, h.tn.of (hb.block _ h.nd.1), OwnS.below h.own hb, h.below.trans (hb.mono h.below.size)⟩
theorem SL.drew (h : SL w root a n cap c q b s v acc W) : SL w root a n cap c q b s v acc W.drew := h.kept (drew_below W)
theorem SL.alloc (h : SL w root a n cap c q b s v acc W) (o : Obj) : SL w root a n cap c q b s v acc (W.alloc o) := h.kept (new_below W o)
theorem SL.app {v' : Value} {acc' : List It} (h : SL w root a n cap c q b s v acc W) (g : W.grownBy W' v.ownBlock) (o : OwnS itLay 47 W' (w.heap.size + 1 + 1) v' acc') : SL w root a n cap c q b s v' acc' W' := by
  have hl : ∀ j, v.ownBlock = some j → w.heap.size + 1 + 1 ≤ j := fun j hj => (World.ownsRow.lt h.own j hj).1
  have hq := TagT.ne h.tn h.own (by decide)
  exact ⟨h.bk.of g.size (g.block _ h.bk.1 (fun e => by have := hl _ e.symm; omega)), h.bx.of g.size (g.block _ h.bx.1 (fun e => by have := hl _ e.symm; omega)), h.nd.of g.size (g.block _ h.nd.1 (fun e => hq _ e.symm rfl)), h.tn.of (g.block _ h.nd.1 (fun e => hq _ e.symm rfl)), o, h.below.grown g h.below.size (fun j e => by have := hl j e; omega)⟩
end
def RetS (base : Nat) (xs : List It) (m : Nat) (w : World) (e : Ending) (w' : World) : Prop := ∃ v, e = .returned (.tuple #[v, .int .i64 (m : Int)]) ∧ OwnS itLay 47 w' base v xs ∧ Below w.heap.size w w'

set_option maxRecDepth 100000 in
set_option maxHeartbeats 3200000 in
theorem l8_leaf (root : Int) (c : Bx) (a : Option Addr) (n cap : Nat) (ps : List PgV) (w0 : World) (h : RdP w0 a n cap ps) (hps : ∀ p ∈ ps, p.xs.length ≤ 4) (f m : Nat) (w : World) (hf : f + 1 ≤ 12) (hB : Below w0.heap.size w0 w) (hmn : m < n) (p : PgV) (hp : ps[m]? = some p) (hu : p.used = true) (hlf : p.leaf = true) :
    Calls Tryz.prog 38 #[.agg #[.int .i64 root, .slice a n cap], .int .i64 (m : Int), .agg #[.int .i64 c.x0, .int .i64 c.y0, .int .i64 c.x1, .int .i64 c.y1], .int .i64 (13 - ((f + 1 : Nat) : Int))] w (RetS w.heap.size (hitsV (ps.map PgV.pg) c (f + 1) (m : Int)) (visV (ps.map PgV.pg) c (f + 1) (m : Int)).length w) := by
  obtain ⟨i0, hi0, hz0, hz1, hz2⟩ := info_parts Tryz.infoItem
  replace hi0 := Lib.hid hi0
  replace hz0 := Lib.hid hz0
  replace hz1 := Lib.hid hz1
  replace hz2 := Lib.hid hz2
  have HV := Lib.hid (fun i => vis_len c (l := ps.map PgV.pg) (fun p hp => by obtain ⟨p', hp', e'⟩ := List.mem_map.1 hp; rw [← e']; exact hps p' hp') f i)
  have HH := Lib.hid (fun i => hits_len c (l := ps.map PgV.pg) (fun p hp => by obtain ⟨p', hp', e'⟩ := List.mem_map.1 hp; rw [← e']; exact hps p' hp') f i)
  have hvn := visN_le f (by omega)
  obtain ⟨d, hd⟩ : ∃ d : Int, d = 13 - ((f + 1 : Nat) : Int) := ⟨_, rfl⟩
  have hd1 : d ≤ 12 := by omega
  have hd0 : 1 ≤ d := by omega
  have hd2 : d + 1 = 13 - (f : Int) := by omega
  rw [← hd]
  have HD := Lib.hid hd2
  have hnc := h.1.1.2.1
  have hm := h.1.1.2.2.1
  unfold maxLen at hm
  have HL := Lib.hid h.1.1.1
  have HPS := Lib.hid hps
  obtain ⟨W0, hW0⟩ : ∃ W0, W0 = ((w.alloc (.cells #[.int .i64 root, .slice a n cap] 26)).alloc (.cells #[.int .i64 c.x0, .int .i64 c.y0, .int .i64 c.x1, .int .i64 c.y1] 28)).alloc (.cells #[] 47) := ⟨_, rfl⟩
  have b0 : Below w.heap.size w W0 := by subst hW0; exact (((Below.refl _ _).alloc (Nat.le_refl _) _).alloc (by simp) _).alloc (by simp; omega) _
  have K0 : Loc W0 w.heap.size #[.int .i64 root, .slice a n cap] := by subst hW0; exact ((Loc.new w _ _).alloc _).alloc _
  have KW : Loc W0 (w.heap.size + 1) #[.int .i64 c.x0, .int .i64 c.y0, .int .i64 c.x1, .int .i64 c.y1] := by
    subst hW0
    have := (Loc.new (w.alloc (.cells #[.int .i64 root, .slice a n cap] 26)) #[.int .i64 c.x0, .int .i64 c.y0, .int .i64 c.x1, .int .i64 c.y1] 28).alloc (.cells #[] 47)
    rwa [World.size_alloc] at this
  have O0 : OwnS itLay 47 W0 (w.heap.size + 1 + 1) (.slice (some ⟨w.heap.size + 1 + 1, 0, none⟩) 0 0) [] := by
    subst hW0
    exact own_nil ((w.alloc (.cells #[.int .i64 root, .slice a n cap] 26)).alloc (.cells #[.int .i64 c.x0, .int .i64 c.y0, .int .i64 c.x1, .int .i64 c.y1] 28)) 47 5 (w.heap.size + 1 + 1) (w.heap.size + 1 + 1) (by simp) (Nat.le_refl _)
  have HRB := Lib.hid hB
  have HRd := Lib.hid h
  have HO0 := Lib.hid O0
  have HB0 := Lib.hid b0
  have hr := h.below (hB.trans (b0.mono hB.size))
  have k1 := K0.2.1 1
  simp at k1
  clear h hB hps hd hd2
  have h0 : (0 : Int) ≤ m := by omega
  have h1 : (m : Int) ≤ (n : Int) - 1 := by omega
  have z1 : (m : Int) < n := by omega
  obtain ⟨b, off, p', rfl, hbl, hp', hrd, d0, d1, d2⟩ := rdP_at hr hmn
  obtain rfl : p = p' := by rw [hp'] at hp; cases hp; rfl
  clear hp'
  have hv : pageAt (ps.map PgV.pg) m = p.pg := pageAt_yes hp
  rw [hu] at d0
  have hu2 : (pageAt (ps.map PgV.pg) m).used = true := by rw [hv]; exact hu
  have HS1 := Lib.hid (hits_succ (c := c) (f := f) hu2)
  have HS2 := Lib.hid (vis_succ (c := c) (f := f) hu2)
  rw [hv] at HS1 HS2
  have hpl := HPS.out p (List.mem_of_getElem? hp)
  have hpn : p.n ≤ 4 := by rw [← hrd.1.1]; exact hpl
  have HPL := Lib.hid hrd.1.1
  have hpc := hrd.1.2.1
  have hpm := hrd.1.2.2.1
  unfold maxLen at hpm
  have HRP := Lib.hid (HRd.out.2 p (List.mem_of_getElem? hp))
  obtain ⟨q1, hq1⟩ : ∃ q, q = W0.heap.size := ⟨_, rfl⟩
  obtain ⟨W4, hW4⟩ : ∃ W4, W4 = W0.alloc (.cells #[.bool p.leaf, .slice p.a p.n p.cap] 59) := ⟨_, rfl⟩
  have SL0 : Hid (SL w root (some ⟨b, off, none⟩) n cap c q1 p.leaf (.slice p.a p.n p.cap) (.slice (some ⟨w.heap.size + 1 + 1, 0, none⟩) 0 0) [] W4) := by
    have b4 : Below W0.heap.size W0 W4 := by subst hW4; exact new_below W0 _
    refine Lib.hid ⟨K0.below b4, KW.below b4, ?_, ?_, OwnS.below O0 b4, HB0.out.trans (b4.mono HB0.out.size)⟩
    · subst hW4; subst hq1; exact Loc.new W0 _ _
    · subst hW4; subst hq1; exact TagT.new _ _ _
  clear K0 KW O0 hr hp hrd
  have E1 : Hid (hitsV (ps.map PgV.pg) c (f + 1) m = p.xs.filter (meetsIt c)) := by
    show _ = _
    rw [HS1.out]
    unfold hitP kidsP
    rw [if_pos (show p.pg.leaf = true from hlf), if_pos (show p.pg.leaf = true from hlf)]
    simp [PgV.pg]
  have E2 : Hid ((visV (ps.map PgV.pg) c (f + 1) m).length = 1) := by
    show _ = _
    rw [HS2.out]
    unfold kidsP
    rw [if_pos (show p.pg.leaf = true from hlf)]
    rfl
  rw [E1.out, E2.out]
  rw [hlf] at d1 hW4 SL0
  clear hv hlf HS1 HS2
  go_enter Tryz.func38, Tryz.ntmps38
  go_wp2_with fail
  rw [← hW0]
  clear hW0
  refine (l1In_yes m 0 ((n : Int) - 1) _ h0 h1).mono ?_
  rintro e w2 ⟨rfl, rfl⟩
  go_wp2_with fail
  rw [← hW4, ← hq1]
  clear hW4 hq1 k1 d0 d1 d2
  go_loopw [10, 12, 13] (fun v mm i wr => ∃ (k : Nat) (vo : Option Addr) (co na : Nat) (acc : List It), k ≤ p.n ∧ v = .slice vo na co ∧ mm = .int .i64 1 ∧ i = .int .i64 (k : Int) ∧ Hid (acc.length = na) ∧ na ≤ k ∧ Hid (acc = (p.xs.take k).filter (meetsIt c)) ∧ Hid (SL w root (some ⟨b, off, none⟩) n cap c q1 true (.slice p.a p.n p.cap) (.slice vo na co) acc wr)) (fun _ _ i _ => p.n - (intOf i).toNat)
  case atStart => exact ⟨0, _, _, 0, [], Nat.zero_le _, rfl, rfl, rfl, Lib.hid rfl, Nat.zero_le _, Lib.hid rfl, SL0⟩
  case round =>
    clear SL0
    obtain ⟨k, vo, co, na, acc, hk, rfl, rfl, rfl, HNA, hna, HACC, HS⟩ := hrel
    have n0 := HS.out.nd.2.1 0
    have n1 := HS.out.nd.2.1 1
    have x0 := HS.out.bx.2.1 0
    have x1 := HS.out.bx.2.1 1
    have x2 := HS.out.bx.2.1 2
    have x3 := HS.out.bx.2.1 3
    simp at n0 n1 x0 x1 x2 x3
    have hql := HS.out.nd.1
    have hxl := HS.out.bx.1
    by_cases hlt : k < p.n
    · obtain ⟨bb, offb, x, hea, hbl2, hx, e0, e1, e2, e3, e4⟩ := rdIt_at ((HRP.out.below HRB.out).below (HS.out.below)) hlt
      rw [hea] at n1
      have z2 : (k : Int) < p.n := by omega
      have z3 : (0 : Int) ≤ k := by omega
      have HX := Lib.hid (filter_step (p := meetsIt c) hx)
      have KS : Hid (∀ V, Below wr.heap.size wr V → (fun V => Below wr.heap.size wr V ∧ V.cell? ⟨q1, 1, none⟩ = some (.slice (some ⟨bb, offb, none⟩) p.n p.cap) ∧ V.cell? ⟨bb, offb + k * 5 + 1, none⟩ = some (.int .i64 x.x0) ∧ V.cell? ⟨bb, offb + k * 5 + 1 + 1, none⟩ = some (.int .i64 x.y0) ∧ V.cell? ⟨bb, offb + k * 5 + 1 + 2, none⟩ = some (.int .i64 x.x1) ∧ V.cell? ⟨bb, offb + k * 5 + 1 + 3, none⟩ = some (.int .i64 x.y1) ∧ V.cell? ⟨w.heap.size + 1, 0, none⟩ = some (.int .i64 c.x0) ∧ V.cell? ⟨w.heap.size + 1, 1, none⟩ = some (.int .i64 c.y0) ∧ V.cell? ⟨w.heap.size + 1, 2, none⟩ = some (.int .i64 c.x1) ∧ V.cell? ⟨w.heap.size + 1, 3, none⟩ = some (.int .i64 c.y1)) V) := Lib.hid (fun V bv => ⟨bv, (bv.cell (p := ⟨q1, 1, none⟩) hql).trans n1, (bv.cell (p := ⟨bb, offb + k * 5 + 1, none⟩) hbl2).trans e1, (bv.cell (p := ⟨bb, offb + k * 5 + 1 + 1, none⟩) hbl2).trans e2, (bv.cell (p := ⟨bb, offb + k * 5 + 1 + 2, none⟩) hbl2).trans e3, (bv.cell (p := ⟨bb, offb + k * 5 + 1 + 3, none⟩) hbl2).trans e4, (bv.cell (p := ⟨w.heap.size + 1, 0, none⟩) hxl).trans x0, (bv.cell (p := ⟨w.heap.size + 1, 1, none⟩) hxl).trans x1, (bv.cell (p := ⟨w.heap.size + 1, 2, none⟩) hxl).trans x2, (bv.cell (p := ⟨w.heap.size + 1, 3, none⟩) hxl).trans x3⟩)
      replace hea := Lib.hid hea
      cases hmt : meetsIt c x with
      | false =>
        have CM := Lib.hid (fun (V : World) => show Calls Tryz.prog 65 _ V (fun e w' => e = .returned (.bool false) ∧ Below V.heap.size V w') from by have := sMeets_any x.x0 x.y0 x.x1 x.y1 c.x0 c.y0 c.x1 c.y1 V; rw [show meetsB x.x0 x.y0 x.x1 x.y1 c.x0 c.y0 c.x1 c.y1 = false from hmt] at this; exact this)
        have HX2 : Hid (acc = (p.xs.take (k + 1)).filter (meetsIt c)) := by
          show _ = _
          rw [HX.out, hmt, if_neg Bool.false_ne_true, HACC.out]
        clear hmt HX hx x0 x1 x2 x3 e0 e1 e2 e3 e4
        go_wp2_with fail
        clear n0 n1
        go_region_held3 (fun V => Below wr.heap.size wr V ∧ V.cell? ⟨q1, 1, none⟩ = some (.slice (some ⟨bb, offb, none⟩) p.n p.cap) ∧ V.cell? ⟨bb, offb + k * 5 + 1, none⟩ = some (.int .i64 x.x0) ∧ V.cell? ⟨bb, offb + k * 5 + 1 + 1, none⟩ = some (.int .i64 x.y0) ∧ V.cell? ⟨bb, offb + k * 5 + 1 + 2, none⟩ = some (.int .i64 x.x1) ∧ V.cell? ⟨bb, offb + k * 5 + 1 + 3, none⟩ = some (.int .i64 x.y1) ∧ V.cell? ⟨w.heap.size + 1, 0, none⟩ = some (.int .i64 c.x0) ∧ V.cell? ⟨w.heap.size + 1, 1, none⟩ = some (.int .i64 c.y0) ∧ V.cell? ⟨w.heap.size + 1, 2, none⟩ = some (.int .i64 c.x1) ∧ V.cell? ⟨w.heap.size + 1, 3, none⟩ = some (.int .i64 c.y1))
          (first | exact KS.out _ (drew_below _) | exact KS.out _ ((drew_below _).trans hb2))
          (first | (go_at_call 65; (with_reducible refine (CM.out _).mono ?_); rintro e w2 ⟨rfl, hb2⟩))
        rename_i hS
        have HS2 := Lib.hid (HS.out.kept hS.1)
        clear hS KS CM
        go_wp2
        go_roundw
        case rel => exact ⟨k + 1, vo, co, na, acc, by omega, rfl, rfl, by go_num, HNA, by omega, HX2, HS2⟩
        case measure => simp [intOf]; omega
      | true =>
        have CM := Lib.hid (fun (V : World) => show Calls Tryz.prog 65 _ V (fun e w' => e = .returned (.bool true) ∧ Below V.heap.size V w') from by have := sMeets_any x.x0 x.y0 x.x1 x.y1 c.x0 c.y0 c.x1 c.y1 V; rw [show meetsB x.x0 x.y0 x.x1 x.y1 c.x0 c.y0 c.x1 c.y1 = true from hmt] at this; exact this)
        have HX2 : Hid (acc ++ [x] = (p.xs.take (k + 1)).filter (meetsIt c)) := by
          show _ = _
          rw [HX.out, hmt, if_pos rfl, HACC.out]
        have he0 := Lib.hid e0
        clear hmt HX hx x0 x1 x2 x3 e0 e1 e2 e3 e4
        go_wp2_with fail
        clear n0 n1
        go_region_held3 (fun V => Below wr.heap.size wr V ∧ V.cell? ⟨q1, 1, none⟩ = some (.slice (some ⟨bb, offb, none⟩) p.n p.cap) ∧ V.cell? ⟨bb, offb + k * 5 + 1, none⟩ = some (.int .i64 x.x0) ∧ V.cell? ⟨bb, offb + k * 5 + 1 + 1, none⟩ = some (.int .i64 x.y0) ∧ V.cell? ⟨bb, offb + k * 5 + 1 + 2, none⟩ = some (.int .i64 x.x1) ∧ V.cell? ⟨bb, offb + k * 5 + 1 + 3, none⟩ = some (.int .i64 x.y1) ∧ V.cell? ⟨w.heap.size + 1, 0, none⟩ = some (.int .i64 c.x0) ∧ V.cell? ⟨w.heap.size + 1, 1, none⟩ = some (.int .i64 c.y0) ∧ V.cell? ⟨w.heap.size + 1, 2, none⟩ = some (.int .i64 c.x1) ∧ V.cell? ⟨w.heap.size + 1, 3, none⟩ = some (.int .i64 c.y1))
          (first | exact KS.out _ (drew_below _) | exact KS.out _ ((drew_below _).trans hb2))
          (first | (go_at_call 65; (with_reducible refine (CM.out _).mono ?_); rintro e w2 ⟨rfl, hb2⟩))
        rename_i hS
        have HS2 := Lib.hid (HS.out.kept hS.1)
        have e0 := (hS.1.cell (p := ⟨bb, offb + k * 5, none⟩) hbl2).trans he0.out
        have hsw := hS.1.size
        obtain ⟨hbw, n1, e1, e2, e3, e4, -⟩ := hS
        have n0 := HS2.out.nd.2.1 0
        simp at n0
        have hs2 := HS2.out.below.size
        clear hbw KS CM HS
        go_wp2_with fail
        have hq1l := HS2.out.nd.1
        have hbl3 : bb < w2.heap.size := Nat.lt_of_lt_of_le hbl2 hsw
        have hbw0 : bb < w0.heap.size := HRP.out.lt (by omega) hea.out
        have hws := HRB.out.size
        have htn := TagT.ne HS2.out.tn HS2.out.own (by decide)
        have hrow : ∀ j, (Value.slice vo na co).ownBlock = some j → (j = q1 ∨ j = bb) → False := fun j hj e => by
          rcases e with e | e
          · exact htn j hj e
          · have := (World.ownsRow.lt HS2.out.own j hj).1
            omega
        have KB : ∀ V : World, (∀ q o, q < w2.heap.size → (q = q1 ∨ q = bb) → V.cell? ⟨q, o, none⟩ = w2.cell? ⟨q, o, none⟩) → V.cell? ⟨q1, 1, none⟩ = some (.slice (some ⟨bb, offb, none⟩) p.n p.cap) ∧ V.cell? ⟨bb, offb + k * 5, none⟩ = some (.int .i64 x.id) ∧ V.cell? ⟨bb, offb + k * 5 + 1, none⟩ = some (.int .i64 x.x0) ∧ V.cell? ⟨bb, offb + k * 5 + 1 + 1, none⟩ = some (.int .i64 x.y0) ∧ V.cell? ⟨bb, offb + k * 5 + 1 + 2, none⟩ = some (.int .i64 x.x1) ∧ V.cell? ⟨bb, offb + k * 5 + 1 + 3, none⟩ = some (.int .i64 x.y1) := fun V hV => ⟨(hV _ _ hq1l (.inl rfl)).trans n1, (hV _ _ hbl3 (.inr rfl)).trans e0, (hV _ _ hbl3 (.inr rfl)).trans e1, (hV _ _ hbl3 (.inr rfl)).trans e2, (hV _ _ hbl3 (.inr rfl)).trans e3, (hV _ _ hbl3 (.inr rfl)).trans e4⟩
        go_region_held3 (fun V => V.cell? ⟨q1, 1, none⟩ = some (.slice (some ⟨bb, offb, none⟩) p.n p.cap) ∧ V.cell? ⟨bb, offb + k * 5, none⟩ = some (.int .i64 x.id) ∧ V.cell? ⟨bb, offb + k * 5 + 1, none⟩ = some (.int .i64 x.x0) ∧ V.cell? ⟨bb, offb + k * 5 + 1 + 1, none⟩ = some (.int .i64 x.y0) ∧ V.cell? ⟨bb, offb + k * 5 + 1 + 2, none⟩ = some (.int .i64 x.x1) ∧ V.cell? ⟨bb, offb + k * 5 + 1 + 3, none⟩ = some (.int .i64 x.y1))
          (first | exact KB _ (fun _ _ _ _ => rfl) | exact KB _ (fun q o hq _ => World.cell?_alloc_lt _ _ ⟨q, o, none⟩ hq) | exact KB _ (fun q o hq hq' => (World.cell?_of_block (a := ⟨q, o, none⟩) (g3.block q (by simp; omega) (fun e => hrow q e.symm hq'))).trans (World.cell?_alloc_lt _ _ ⟨q, o, none⟩ hq)))
          (first
            | ((refine step_append_src rfl (.tmp 62) (.tmp 76) 31 rfl (w.heap.size + 1 + 1) 47 i0 _ 5 40 Tryz.underlying31 hi0.out hz0.out hz1.out hz2.out rfl (by decide) (.slice vo na co) na (acc.flatMap itLay.cells) rfl (World.ownsRow.drew (World.ownsRow.alloc (ownS_rowN HS2.out.own HNA.out) (.cells #[.int .i64 x.id, .int .i64 x.x0, .int .i64 x.y0, .int .i64 x.x1, .int .i64 x.y1] 47))) (some ⟨w2.heap.size, 0, none⟩) 1 1 (itLay.cells x) rfl rfl (fun h => by cases h) (fun p hp => by cases hp; exact World.news_of_block (cs := #[.int .i64 x.id, .int .i64 x.x0, .int .i64 x.y0, .int .i64 x.x1, .int .i64 x.y1]) (t := 47) (fr := (0, 0)) (heap_alloc_new w2 _)) (itLay.one x) (by unfold maxLen; omega) (by omega) (by simp; omega) ?_); intro v3 w3 o3 g3; obtain ⟨a3, c3, rfl⟩ := owns_shape o3))
        all_goals
          have HS3 := Lib.hid (((HS2.out.alloc (.cells #[.int .i64 x.id, .int .i64 x.x0, .int .i64 x.y0, .int .i64 x.x1, .int .i64 x.y1] 47)).drew).app (acc' := acc ++ [x]) g3 (by
            have := o3
            unfold OwnS
            rw [List.length_append, HNA.out, List.flatMap_append]
            show w3.ownsRow _ _ 5 _ _ _
            simpa using this))
          have HN3 : Hid ((acc ++ [x]).length = na + 1) := by
            show _ = _
            rw [List.length_append, HNA.out]
            rfl
          clear o3 g3
          go_wp2
          go_roundw
          case rel => exact ⟨k + 1, a3, c3, na + 1, _, by omega, rfl, rfl, by go_num, HN3, by omega, HX2, HS3⟩
          case measure => simp [intOf]; omega
    · obtain rfl : k = p.n := by omega
      have hall : Hid (acc = p.xs.filter (meetsIt c)) := by
        have := HACC.out
        rw [List.take_of_length_le (by rw [HPL.out]; exact Nat.le_refl _)] at this
        exact Lib.hid this
      go_wp2
      refine bodyPost_ret (v := .tuple #[.slice vo na co, .int .i64 1]) (by simp [results, Tryz.results38, go_sem]) rfl ?_
      rw [← hall.out]
      exact ⟨_, rfl, OwnS.mono (L := itLay) HS.out.own (by omega), HS.out.below⟩
end Go.Proofs.YtfefggcfeppeiaaGreat
