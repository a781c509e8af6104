/- The model's search of an inner node. -/
import Derived.Test.YtfefggcfeppeiaaGreatLookD1ZLooks
namespace Go.Proofs.YtfefggcfeppeiaaGreat
open Go.RowKit
attribute [local go_sem ↓] Go.wp_at_zero Go.wp_at_succ

set_option maxRecDepth 100000 in
set_option maxHeartbeats 3200000 in
theorem l8_inner (root : Int) (c : Bx) (a : Option Addr) (n cap : Nat) (ps : List PgV) (w0 : World) (h : RdP w0 a n cap ps) (hps : ∀ p ∈ ps, p.xs.length ≤ 4) (f m : Nat) (w : World) (hf : f + 1 ≤ 12) (hB : Below w0.heap.size w0 w) (hmn : m < n) (p : PgV) (hp : ps[m]? = some p) (hu : p.used = true) (hlf : p.leaf = false)
    (IH : ∀ (i : Int) (w : World), Below w0.heap.size w0 w → Calls Tryz.prog 38 #[.agg #[.int .i64 root, .slice a n cap], .int .i64 i, .agg #[.int .i64 c.x0, .int .i64 c.y0, .int .i64 c.x1, .int .i64 c.y1], .int .i64 (13 - (f : Int))] w (RetS w.heap.size (hitsV (ps.map PgV.pg) c f i) (visV (ps.map PgV.pg) c f i).length w)) :
    Calls Tryz.prog 38 #[.agg #[.int .i64 root, .slice a n cap], .int .i64 (m : Int), .agg #[.int .i64 c.x0, .int .i64 c.y0, .int .i64 c.x1, .int .i64 c.y1], .int .i64 (13 - ((f + 1 : Nat) : Int))] w (RetS w.heap.size (hitsV (ps.map PgV.pg) c (f + 1) (m : Int)) (visV (ps.map PgV.pg) c (f + 1) (m : Int)).length w) := by
  obtain ⟨i0, hi0, hz0, hz1, hz2⟩ := info_parts Tryz.infoItem
  replace hi0 := Lib.hid hi0
  replace hz0 := Lib.hid hz0
  replace hz1 := Lib.hid hz1
  replace hz2 := Lib.hid hz2
  have HV := Lib.hid (fun i => vis_len c (l := ps.map PgV.pg) (fun p hp => by obtain ⟨p', hp', e'⟩ := List.mem_map.1 hp; rw [← e']; exact hps p' hp') f i)
  have HH := Lib.hid (fun i => hits_len c (l := ps.map PgV.pg) (fun p hp => by obtain ⟨p', hp', e'⟩ := List.mem_map.1 hp; rw [← e']; exact hps p' hp') f i)
  have hvn := visN_le f (by omega)
  obtain ⟨d, hd⟩ : ∃ d : Int, d = 13 - ((f + 1 : Nat) : Int) := ⟨_, rfl⟩
  have hd1 : d ≤ 12 := by omega
  have hd0 : 1 ≤ d := by omega
  have hd2 : d + 1 = 13 - (f : Int) := by omega
  rw [← hd]
  have HD := Lib.hid hd2
  have hnc := h.1.1.2.1
  have hm := h.1.1.2.2.1
  unfold maxLen at hm
  have HL := Lib.hid h.1.1.1
  have HPS := Lib.hid hps
  obtain ⟨W0, hW0⟩ : ∃ W0, W0 = ((w.alloc (.cells #[.int .i64 root, .slice a n cap] 26)).alloc (.cells #[.int .i64 c.x0, .int .i64 c.y0, .int .i64 c.x1, .int .i64 c.y1] 28)).alloc (.cells #[] 47) := ⟨_, rfl⟩
  have b0 : Below w.heap.size w W0 := by subst hW0; exact (((Below.refl _ _).alloc (Nat.le_refl _) _).alloc (by simp) _).alloc (by simp; omega) _
  have K0 : Loc W0 w.heap.size #[.int .i64 root, .slice a n cap] := by subst hW0; exact ((Loc.new w _ _).alloc _).alloc _
  have KW : Loc W0 (w.heap.size + 1) #[.int .i64 c.x0, .int .i64 c.y0, .int .i64 c.x1, .int .i64 c.y1] := by
    subst hW0
    have := (Loc.new (w.alloc (.cells #[.int .i64 root, .slice a n cap] 26)) #[.int .i64 c.x0, .int .i64 c.y0, .int .i64 c.x1, .int .i64 c.y1] 28).alloc (.cells #[] 47)
    rwa [World.size_alloc] at this
  have O0 : OwnS itLay 47 W0 (w.heap.size + 1 + 1) (.slice (some ⟨w.heap.size + 1 + 1, 0, none⟩) 0 0) [] := by
    subst hW0
    exact own_nil ((w.alloc (.cells #[.int .i64 root, .slice a n cap] 26)).alloc (.cells #[.int .i64 c.x0, .int .i64 c.y0, .int .i64 c.x1, .int .i64 c.y1] 28)) 47 5 (w.heap.size + 1 + 1) (w.heap.size + 1 + 1) (by simp) (Nat.le_refl _)
  have HRB := Lib.hid hB
  have HRd := Lib.hid h
  have HO0 := Lib.hid O0
  have HB0 := Lib.hid b0
  have hr := h.below (hB.trans (b0.mono hB.size))
  have k1 := K0.2.1 1
  simp at k1
  clear h hB hps hd hd2
  have h0 : (0 : Int) ≤ m := by omega
  have h1 : (m : Int) ≤ (n : Int) - 1 := by omega
  have z1 : (m : Int) < n := by omega
  obtain ⟨b, off, p', rfl, hbl, hp', hrd, d0, d1, d2⟩ := rdP_at hr hmn
  obtain rfl : p = p' := by rw [hp'] at hp; cases hp; rfl
  clear hp'
  have hv : pageAt (ps.map PgV.pg) m = p.pg := pageAt_yes hp
  rw [hu] at d0
  replace IH := Lib.hid IH
  have hu2 : (pageAt (ps.map PgV.pg) m).used = true := by rw [hv]; exact hu
  have HS1 := Lib.hid (hits_succ (c := c) (f := f) hu2)
  have HS2 := Lib.hid (vis_succ (c := c) (f := f) hu2)
  rw [hv] at HS1 HS2
  have hpl := HPS.out p (List.mem_of_getElem? hp)
  have hpn : p.n ≤ 4 := by rw [← hrd.1.1]; exact hpl
  have HPL := Lib.hid hrd.1.1
  have hpc := hrd.1.2.1
  have hpm := hrd.1.2.2.1
  unfold maxLen at hpm
  have HRP := Lib.hid (HRd.out.2 p (List.mem_of_getElem? hp))
  obtain ⟨q1, hq1⟩ : ∃ q, q = W0.heap.size := ⟨_, rfl⟩
  obtain ⟨W4, hW4⟩ : ∃ W4, W4 = W0.alloc (.cells #[.bool p.leaf, .slice p.a p.n p.cap] 59) := ⟨_, rfl⟩
  have SL0 : Hid (SL w root (some ⟨b, off, none⟩) n cap c q1 p.leaf (.slice p.a p.n p.cap) (.slice (some ⟨w.heap.size + 1 + 1, 0, none⟩) 0 0) [] W4) := by
    have b4 : Below W0.heap.size W0 W4 := by subst hW4; exact new_below W0 _
    refine Lib.hid ⟨K0.below b4, KW.below b4, ?_, ?_, OwnS.below O0 b4, HB0.out.trans (b4.mono HB0.out.size)⟩
    · subst hW4; subst hq1; exact Loc.new W0 _ _
    · subst hW4; subst hq1; exact TagT.new _ _ _
  clear K0 KW O0 hr hp hrd
  obtain ⟨N1, hN1, HH⟩ : ∃ N1, N1 ≤ 22369620 ∧ Hid (∀ i, (hitsV (ps.map PgV.pg) c f i).length ≤ N1) := ⟨visN f * 4, by omega, HH⟩
  obtain ⟨N2, hN2, HV⟩ : ∃ N2, N2 ≤ 5592405 ∧ Hid (∀ i, (visV (ps.map PgV.pg) c f i).length ≤ N2) := ⟨visN f, by omega, HV⟩
  clear hvn
  have E1 : Hid (hitsV (ps.map PgV.pg) c (f + 1) m = (p.xs.filter (meetsIt c)).flatMap (fun x => hitsV (ps.map PgV.pg) c f x.id)) := by
    show _ = _
    rw [HS1.out]
    unfold hitP kidsP
    rw [if_neg (show ¬ p.pg.leaf = true by rw [show p.pg.leaf = p.leaf from rfl, hlf]; exact Bool.false_ne_true), if_neg (show ¬ p.pg.leaf = true by rw [show p.pg.leaf = p.leaf from rfl, hlf]; exact Bool.false_ne_true)]
    rfl
  have E2 : Hid ((visV (ps.map PgV.pg) c (f + 1) m).length = 1 + ((p.xs.filter (meetsIt c)).flatMap (fun x => visV (ps.map PgV.pg) c f x.id)).length) := by
    show _ = _
    rw [HS2.out]
    unfold kidsP
    rw [if_neg (show ¬ p.pg.leaf = true by rw [show p.pg.leaf = p.leaf from rfl, hlf]; exact Bool.false_ne_true), List.length_cons]
    exact Nat.add_comm _ _
  rw [E1.out, E2.out]
  rw [hlf] at d1 hW4 SL0
  clear hv hlf HS1 HS2
  go_enter Tryz.func38, Tryz.ntmps38
  go_wp2_with fail
  rw [← hW0]
  clear hW0
  refine (l1In_yes m 0 ((n : Int) - 1) _ h0 h1).mono ?_
  rintro e w2 ⟨rfl, rfl⟩
  go_wp2_with fail
  rw [← hW4, ← hq1]
  clear hW4 hq1 k1 d0 d1 d2
  go_loopw [10, 12, 13] (fun v mm i wr => ∃ (k : Nat) (vo : Option Addr) (co na nm : Nat) (acc : List It), k ≤ p.n ∧ v = .slice vo na co ∧ mm = .int .i64 (nm : Int) ∧ i = .int .i64 (k : Int) ∧ Hid (acc.length = na) ∧ na ≤ k * N1 ∧ nm ≤ 1 + k * N2 ∧ Hid (acc = ((p.xs.take k).filter (meetsIt c)).flatMap (fun x => hitsV (ps.map PgV.pg) c f x.id)) ∧ Hid (nm = 1 + (((p.xs.take k).filter (meetsIt c)).flatMap (fun x => visV (ps.map PgV.pg) c f x.id)).length) ∧ Hid (SL w root (some ⟨b, off, none⟩) n cap c q1 false (.slice p.a p.n p.cap) (.slice vo na co) acc wr)) (fun _ _ i _ => p.n - (intOf i).toNat)
  case atStart => exact ⟨0, _, _, 0, 1, [], Nat.zero_le _, rfl, rfl, rfl, Lib.hid rfl, Nat.zero_le _, Nat.le_add_right _ _, Lib.hid rfl, Lib.hid rfl, SL0⟩
  case round =>
    clear SL0
    obtain ⟨k, vo, co, na, nm, acc, hk, rfl, rfl, rfl, HNA, hna, hnm, HACC, HNM, HS⟩ := hrel
    have n0 := HS.out.nd.2.1 0
    have n1 := HS.out.nd.2.1 1
    have x0 := HS.out.bx.2.1 0
    have x1 := HS.out.bx.2.1 1
    have x2 := HS.out.bx.2.1 2
    have x3 := HS.out.bx.2.1 3
    have y0 := HS.out.bk.2.1 0
    have y1 := HS.out.bk.2.1 1
    simp at n0 n1 x0 x1 x2 x3 y0 y1
    have hql := HS.out.nd.1
    have hxl := HS.out.bx.1
    have hyl := HS.out.bk.1
    by_cases hlt : k < p.n
    · obtain ⟨bb, offb, x, hea, hbl2, hx, e0, e1, e2, e3, e4⟩ := rdIt_at ((HRP.out.below HRB.out).below (HS.out.below)) hlt
      rw [hea] at n1
      have z2 : (k : Int) < p.n := by omega
      have z3 : (0 : Int) ≤ k := by omega
      have HX := Lib.hid (filter_step (p := meetsIt c) hx)
      have KS : Hid (∀ V, Below wr.heap.size wr V → (fun V => Below wr.heap.size wr V ∧ V.cell? ⟨q1, 1, none⟩ = some (.slice (some ⟨bb, offb, none⟩) p.n p.cap) ∧ V.cell? ⟨bb, offb + k * 5 + 1, none⟩ = some (.int .i64 x.x0) ∧ V.cell? ⟨bb, offb + k * 5 + 1 + 1, none⟩ = some (.int .i64 x.y0) ∧ V.cell? ⟨bb, offb + k * 5 + 1 + 2, none⟩ = some (.int .i64 x.x1) ∧ V.cell? ⟨bb, offb + k * 5 + 1 + 3, none⟩ = some (.int .i64 x.y1) ∧ V.cell? ⟨w.heap.size + 1, 0, none⟩ = some (.int .i64 c.x0) ∧ V.cell? ⟨w.heap.size + 1, 1, none⟩ = some (.int .i64 c.y0) ∧ V.cell? ⟨w.heap.size + 1, 2, none⟩ = some (.int .i64 c.x1) ∧ V.cell? ⟨w.heap.size + 1, 3, none⟩ = some (.int .i64 c.y1)) V) := Lib.hid (fun V bv => ⟨bv, (bv.cell (p := ⟨q1, 1, none⟩) hql).trans n1, (bv.cell (p := ⟨bb, offb + k * 5 + 1, none⟩) hbl2).trans e1, (bv.cell (p := ⟨bb, offb + k * 5 + 1 + 1, none⟩) hbl2).trans e2, (bv.cell (p := ⟨bb, offb + k * 5 + 1 + 2, none⟩) hbl2).trans e3, (bv.cell (p := ⟨bb, offb + k * 5 + 1 + 3, none⟩) hbl2).trans e4, (bv.cell (p := ⟨w.heap.size + 1, 0, none⟩) hxl).trans x0, (bv.cell (p := ⟨w.heap.size + 1, 1, none⟩) hxl).trans x1, (bv.cell (p := ⟨w.heap.size + 1, 2, none⟩) hxl).trans x2, (bv.cell (p := ⟨w.heap.size + 1, 3, none⟩) hxl).trans x3⟩)
      replace hea := Lib.hid hea
      cases hmt : meetsIt c x with
      | false =>
        have CM := Lib.hid (fun (V : World) => show Calls Tryz.prog 65 _ V (fun e w' => e = .returned (.bool false) ∧ Below V.heap.size V w') from by have := sMeets_any x.x0 x.y0 x.x1 x.y1 c.x0 c.y0 c.x1 c.y1 V; rw [show meetsB x.x0 x.y0 x.x1 x.y1 c.x0 c.y0 c.x1 c.y1 = false from hmt] at this; exact this)
        have HX2 : Hid (acc = ((p.xs.take (k + 1)).filter (meetsIt c)).flatMap (fun x => hitsV (ps.map PgV.pg) c f x.id)) := by
          show _ = _
          rw [HX.out, hmt, if_neg Bool.false_ne_true, HACC.out]
        have HN2 : Hid (nm = 1 + (((p.xs.take (k + 1)).filter (meetsIt c)).flatMap (fun x => visV (ps.map PgV.pg) c f x.id)).length) := by
          show _ = _
          rw [HX.out, hmt, if_neg Bool.false_ne_true, HNM.out]
        clear hmt HX hx x0 x1 x2 x3 e0 e1 e2 e3 e4 y0 y1
        go_wp2_with fail
        clear n0 n1
        go_region_held3 (fun V => Below wr.heap.size wr V ∧ V.cell? ⟨q1, 1, none⟩ = some (.slice (some ⟨bb, offb, none⟩) p.n p.cap) ∧ V.cell? ⟨bb, offb + k * 5 + 1, none⟩ = some (.int .i64 x.x0) ∧ V.cell? ⟨bb, offb + k * 5 + 1 + 1, none⟩ = some (.int .i64 x.y0) ∧ V.cell? ⟨bb, offb + k * 5 + 1 + 2, none⟩ = some (.int .i64 x.x1) ∧ V.cell? ⟨bb, offb + k * 5 + 1 + 3, none⟩ = some (.int .i64 x.y1) ∧ V.cell? ⟨w.heap.size + 1, 0, none⟩ = some (.int .i64 c.x0) ∧ V.cell? ⟨w.heap.size + 1, 1, none⟩ = some (.int .i64 c.y0) ∧ V.cell? ⟨w.heap.size + 1, 2, none⟩ = some (.int .i64 c.x1) ∧ V.cell? ⟨w.heap.size + 1, 3, none⟩ = some (.int .i64 c.y1))
          (first | exact KS.out _ (drew_below _) | exact KS.out _ ((drew_below _).trans hb2))
          (first | (go_at_call 65; (with_reducible refine (CM.out _).mono ?_); rintro e w2 ⟨rfl, hb2⟩))
        rename_i hS
        have HS2 := Lib.hid (HS.out.kept hS.1)
        clear hS KS CM
        go_wp2
        go_roundw
        case rel => exact ⟨k + 1, vo, co, na, nm, acc, by omega, rfl, rfl, by go_num, HNA, Nat.le_trans hna (Nat.mul_le_mul_right _ (Nat.le_succ k)), Nat.le_trans hnm (Nat.add_le_add_left (Nat.mul_le_mul_right _ (Nat.le_succ k)) 1), HX2, HN2, HS2⟩
        case measure => simp [intOf]; omega
      | true =>
        have CM := Lib.hid (fun (V : World) => show Calls Tryz.prog 65 _ V (fun e w' => e = .returned (.bool true) ∧ Below V.heap.size V w') from by have := sMeets_any x.x0 x.y0 x.x1 x.y1 c.x0 c.y0 c.x1 c.y1 V; rw [show meetsB x.x0 x.y0 x.x1 x.y1 c.x0 c.y0 c.x1 c.y1 = true from hmt] at this; exact this)
        obtain ⟨hs, hhs⟩ : ∃ hs, hs = hitsV (ps.map PgV.pg) c f x.id := ⟨_, rfl⟩
        obtain ⟨nv, hnv⟩ : ∃ nv, nv = (visV (ps.map PgV.pg) c f x.id).length := ⟨_, rfl⟩
        have hh1 : hs.length ≤ N1 := by rw [hhs]; exact HH.out x.id
        have hv1 : nv ≤ N2 := by rw [hnv]; exact HV.out x.id
        have HX2 : Hid (acc ++ hs = ((p.xs.take (k + 1)).filter (meetsIt c)).flatMap (fun x => hitsV (ps.map PgV.pg) c f x.id)) := by
          show _ = _
          rw [HX.out, hmt, if_pos rfl, List.flatMap_append, ← HACC.out, hhs]
          simp
        have HN2 : Hid (nm + nv = 1 + (((p.xs.take (k + 1)).filter (meetsIt c)).flatMap (fun x => visV (ps.map PgV.pg) c f x.id)).length) := by
          show _ = _
          rw [HX.out, hmt, if_pos rfl, List.flatMap_append, List.length_append, ← Nat.add_assoc, ← HNM.out, hnv]
          simp
        have he0 := Lib.hid e0
        replace y0 := Lib.hid y0
        replace y1 := Lib.hid y1
        clear hmt HX hx x0 x1 x2 x3 e0 e1 e2 e3 e4
        go_wp2_with fail
        clear n0 n1
        go_region_held3 (fun V => Below wr.heap.size wr V ∧ V.cell? ⟨q1, 1, none⟩ = some (.slice (some ⟨bb, offb, none⟩) p.n p.cap) ∧ V.cell? ⟨bb, offb + k * 5 + 1, none⟩ = some (.int .i64 x.x0) ∧ V.cell? ⟨bb, offb + k * 5 + 1 + 1, none⟩ = some (.int .i64 x.y0) ∧ V.cell? ⟨bb, offb + k * 5 + 1 + 2, none⟩ = some (.int .i64 x.x1) ∧ V.cell? ⟨bb, offb + k * 5 + 1 + 3, none⟩ = some (.int .i64 x.y1) ∧ V.cell? ⟨w.heap.size + 1, 0, none⟩ = some (.int .i64 c.x0) ∧ V.cell? ⟨w.heap.size + 1, 1, none⟩ = some (.int .i64 c.y0) ∧ V.cell? ⟨w.heap.size + 1, 2, none⟩ = some (.int .i64 c.x1) ∧ V.cell? ⟨w.heap.size + 1, 3, none⟩ = some (.int .i64 c.y1))
          (first | exact KS.out _ (drew_below _) | exact KS.out _ ((drew_below _).trans hb2))
          (first | (go_at_call 65; (with_reducible refine (CM.out _).mono ?_); rintro e w2 ⟨rfl, hb2⟩))
        rename_i hS
        have HS2 := Lib.hid (HS.out.kept hS.1)
        have n1 := hS.2.1
        have n0 := HS2.out.nd.2.1 0
        simp at n0
        have hb1 := hS.1
        have hsw := hS.1.size
        obtain ⟨-, -, -, -, -, -, x0, x1, x2, x3⟩ := hS
        have e0 := (hb1.cell (p := ⟨bb, offb + k * 5, none⟩) hbl2).trans he0.out
        have y0 := HS2.out.bk.2.1 0
        have y1 := HS2.out.bk.2.1 1
        simp at y0 y1
        have hq2 := HS2.out.nd.1
        have hx2 := HS2.out.bx.1
        have hy2 := HS2.out.bk.1
        have hb2l : bb < w2.heap.size := Nat.lt_of_lt_of_le hbl2 hsw
        have KS2 : Hid (∀ V, Below w2.heap.size w2 V → (fun V => Below w2.heap.size w2 V ∧ V.cell? ⟨w.heap.size, 0, none⟩ = some (.int .i64 root) ∧ V.cell? ⟨w.heap.size, 1, none⟩ = some (.slice (some ⟨b, off, none⟩) n cap) ∧ V.cell? ⟨q1, 1, none⟩ = some (.slice (some ⟨bb, offb, none⟩) p.n p.cap) ∧ V.cell? ⟨bb, offb + k * 5, none⟩ = some (.int .i64 x.id) ∧ V.cell? ⟨w.heap.size + 1, 0, none⟩ = some (.int .i64 c.x0) ∧ V.cell? ⟨w.heap.size + 1, 1, none⟩ = some (.int .i64 c.y0) ∧ V.cell? ⟨w.heap.size + 1, 2, none⟩ = some (.int .i64 c.x1) ∧ V.cell? ⟨w.heap.size + 1, 3, none⟩ = some (.int .i64 c.y1)) V) := Lib.hid (fun V bv => ⟨bv, (bv.cell (p := ⟨w.heap.size, 0, none⟩) hy2).trans y0, (bv.cell (p := ⟨w.heap.size, 1, none⟩) hy2).trans y1, (bv.cell (p := ⟨q1, 1, none⟩) hq2).trans n1, (bv.cell (p := ⟨bb, offb + k * 5, none⟩) hb2l).trans e0, (bv.cell (p := ⟨w.heap.size + 1, 0, none⟩) hx2).trans x0, (bv.cell (p := ⟨w.heap.size + 1, 1, none⟩) hx2).trans x1, (bv.cell (p := ⟨w.heap.size + 1, 2, none⟩) hx2).trans x2, (bv.cell (p := ⟨w.heap.size + 1, 3, none⟩) hx2).trans x3⟩)
        have CI := IH.out x.id w2.drew ((HRB.out.trans (HS2.out.below.mono HRB.out.size)).drew)
        rw [← hhs, ← hnv, ← HD.out] at CI
        replace CI := Lib.hid CI
        have hwn : IntKind.i64.wrap (d + 1) = d + 1 := by rw [IntKind.wrap_i64]; omega
        clear KS CM HS y0 y1 x0 x1 x2 x3 e0 hb1 hhs hnv n1
        go_wp2_with fail
        go_region_held3 (fun V => Below w2.heap.size w2 V ∧ V.cell? ⟨w.heap.size, 0, none⟩ = some (.int .i64 root) ∧ V.cell? ⟨w.heap.size, 1, none⟩ = some (.slice (some ⟨b, off, none⟩) n cap) ∧ V.cell? ⟨q1, 1, none⟩ = some (.slice (some ⟨bb, offb, none⟩) p.n p.cap) ∧ V.cell? ⟨bb, offb + k * 5, none⟩ = some (.int .i64 x.id) ∧ V.cell? ⟨w.heap.size + 1, 0, none⟩ = some (.int .i64 c.x0) ∧ V.cell? ⟨w.heap.size + 1, 1, none⟩ = some (.int .i64 c.y0) ∧ V.cell? ⟨w.heap.size + 1, 2, none⟩ = some (.int .i64 c.x1) ∧ V.cell? ⟨w.heap.size + 1, 3, none⟩ = some (.int .i64 c.y1))
          (first | exact KS2.out _ (drew_below _) | exact KS2.out _ ((drew_below _).trans b6))
          (first | (go_at_call 38; (try rw [hwn]); (with_reducible refine CI.out.mono ?_); rintro e w6 ⟨v6, rfl, o6, b6⟩; obtain ⟨a6, c6, rfl, r6⟩ := OwnS.rd o6))
        have HS6 := Lib.hid (HS2.out.drew.kept b6)
        have s6 := HS6.out.bx.1
        have hk4 : k * N1 ≤ 4 * N1 := Nat.mul_le_mul_right _ (by omega)
        have hk5 : k * N2 ≤ 4 * N2 := Nat.mul_le_mul_right _ (by omega)
        clear KS2 CI HS2 o6 b6 n0
        go_wp2_with (at_builtin; refine append_src rfl (.tmp 92) (.tmp 93) 31 rfl (w.heap.size + 1 + 1) 47 i0 _ 5 40 Tryz.underlying31 hi0.out hz0.out hz1.out hz2.out rfl (by decide) (.slice vo na co) na (acc.flatMap itLay.cells) rfl (ownS_rowN HS6.out.own HNA.out) a6 hs.length c6 (hs.flatMap itLay.cells) rfl r6.len (fun h => r6.nil h) r6.news (cells_one itLay hs) ?_ ?_ ?_ ?_)
        case refine_1 => unfold maxLen; omega
        case refine_2 => omega
        case refine_3 => omega
        intro v7 w7 o7 g7
        obtain ⟨a7, c7, rfl⟩ := owns_shape o7
        have HS7 := Lib.hid (HS6.out.app (acc' := acc ++ hs) g7 (by
          have := o7
          unfold OwnS
          rw [List.length_append, HNA.out, List.flatMap_append]
          exact this))
        have HN7 : Hid ((acc ++ hs).length = na + hs.length) := by
          show _ = _
          rw [List.length_append, HNA.out]
        clear o7 g7 HS6 r6
        go_wp2
        go_roundw
        case rel => exact ⟨k + 1, a7, c7, na + hs.length, nm + nv, _, by omega, rfl, by go_num, by go_num, HN7, by rw [Nat.succ_mul]; omega, by rw [Nat.succ_mul]; omega, HX2, HN2, HS7⟩
        case measure => simp [intOf]; omega
    · obtain rfl : k = p.n := by omega
      have hall : p.xs.take p.n = p.xs := List.take_of_length_le (by rw [HPL.out]; exact Nat.le_refl _)
      have ha1 := HACC.out
      have ha2 := HNM.out
      rw [hall] at ha1 ha2
      replace ha1 := Lib.hid ha1
      replace ha2 := Lib.hid ha2
      clear hall
      go_wp2
      refine bodyPost_ret (v := .tuple #[.slice vo na co, .int .i64 (nm : Int)]) (by simp [results, Tryz.results38, go_sem]) rfl ?_
      rw [← ha1.out, ← ha2.out]
      exact ⟨_, rfl, OwnS.mono (L := itLay) HS.out.own (by omega), HS.out.below⟩
end Go.Proofs.YtfefggcfeppeiaaGreat
