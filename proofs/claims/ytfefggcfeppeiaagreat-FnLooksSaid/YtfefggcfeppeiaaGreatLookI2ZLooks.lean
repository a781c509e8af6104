/- The program's Leaves: the library's IndexFunc and DeleteFunc with a closure, over a row of the call's own. -/
import Derived.Test.YtfefggcfeppeiaaGreatLookYZLooks
import Derived.Test.YtfefggcfeppeiaaGreatReachI3ZLooks
import Derived.Lib.SliceRun
namespace Go.Proofs.YtfefggcfeppeiaaGreat
open Go.RowKit
attribute [local go_sem ↓] Go.wp_at_zero Go.wp_at_succ

theorem own_cut {w : World} {base : Nat} {e : TypeId} {g n cap i : Nat} {xs : List Value} (h : w.ownsRow base e 1 (.slice (some ⟨g, 0, none⟩) n cap) n xs) (hi : i ≤ n) : w.ownsRow base e 1 (.slice (some ⟨g, 0, none⟩) i cap) i (xs.take i) := by
  obtain ⟨h1, h2⟩ := h
  rcases h2 with ⟨h0, _⟩ | ⟨g', cap', cur, hv, hg, hh, hn, hcap, hsz, htake⟩
  · cases h0
  · cases hv
    refine ⟨by rw [List.length_take]; omega, .inr ⟨g, cap, cur, rfl, hg, hh, by omega, hcap, hsz, ?_⟩⟩
    rw [← htake, List.take_take]
    congr 1
    omega
theorem own_clear {base : Nat} {e : TypeId} {g n cap : Nat} : ∀ (vs : List Value) (o : Nat) (w : World) (xs : List Value), w.ownsRow base e 1 (.slice (some ⟨g, 0, none⟩) n cap) n xs → ∃ ys, (w.setCells g o vs).ownsRow base e 1 (.slice (some ⟨g, 0, none⟩) n cap) n ys ∧ ys.take o = xs.take o ∧ w.grownBy (w.setCells g o vs) (some g)
  | [], o, w, xs, h => ⟨xs, h, rfl, World.grownBy.refl _ _⟩
  | v :: vs, o, w, xs, h => by
    obtain ⟨ys, h1, h2, h3⟩ := own_clear vs (o + 1) _ _ (h.stored o v).1
    refine ⟨ys, h1, ?_, grown_trans (h.stored o v).2 h3⟩
    have h4 := congrArg (List.take o) h2
    rw [List.take_take, List.take_take, Nat.min_eq_left (Nat.le_succ o)] at h4
    rw [h4, List.take_set_of_le (Nat.le_refl o)]
theorem filter_next {p : Int → Bool} {zs : List Int} {k : Nat} (h : k < zs.length) : (zs.take (k + 1)).filter p = if p (zs.getD k 0) then (zs.take k).filter p ++ [zs.getD k 0] else (zs.take k).filter p := by
  refine filter_more ?_
  rw [List.getElem?_eq_getElem h, List.getD_eq_getElem?_getD, List.getElem?_eq_getElem h]
  rfl

set_option maxRecDepth 100000 in
set_option maxHeartbeats 1600000 in
theorem iIdx_any (keep : Int → Bool) (q : Nat) (W0 : World) (zs : List Int) (HP : ∀ z ∈ zs, ∀ W, Below W0.heap.size W0 W → Calls Tryz.prog 42 #[.int .i64 z, .pointer (some ⟨q, 0, none⟩)] W fun e w' => e = .returned (.bool (!keep z)) ∧ W = w')
    (a : Option Addr) (n cap : Nat) (w : World) (hB : Below W0.heap.size W0 w) (h : RdI .i64 w a n cap zs) (hm : n ≤ 1099511627776) :
    Calls Tryz.prog 66 #[.slice a n cap, .func (.func 42) #[] #[.pointer (some ⟨q, 0, none⟩)]] w fun e w' => w = w' ∧ ((e = .returned (.int .i64 (-1)) ∧ ∀ z ∈ zs, keep z = true) ∨ ∃ k : Nat, k < n ∧ e = .returned (.int .i64 (k : Int)) ∧ (∀ j, j < k → keep (zs.getD j 0) = true) ∧ keep (zs.getD k 0) = false) := by
  have HL := Lib.hid h.1.1
  have hnc := h.1.2.1
  have HR := Lib.hid h
  clear h
  go_enter Tryz.func66, Tryz.ntmps66
  go_wp2
  go_loopw [8] (fun i wr => ∃ k : Nat, k ≤ n ∧ i = .int .i64 (k : Int) ∧ Hid (∀ j, j < k → keep (zs.getD j 0) = true) ∧ wr = w) (fun i _ => n - (intOf i).toNat)
  case atStart => exact ⟨0, Nat.zero_le _, rfl, Lib.hid (fun j hj => by omega), rfl⟩
  case round =>
    obtain ⟨k, hk, rfl, HA, rfl⟩ := hrel
    by_cases hlt : k < n
    · obtain ⟨b, off, rfl, hc⟩ := HR.out.2 (by omega)
      have ck := hc k hlt
      have hkl : k < zs.length := by rw [HL.out]; exact hlt
      have hmem : zs.getD k 0 ∈ zs := by
        rw [List.getD_eq_getElem?_getD, List.getElem?_eq_getElem hkl]
        exact List.getElem_mem hkl
      have C := HP _ hmem wr hB
      obtain ⟨y, hy⟩ : ∃ y, y = zs.getD k 0 := ⟨_, rfl⟩
      rw [← hy] at ck C
      have z0 : (0 : Int) ≤ k := by omega
      have z1 : (k : Int) < n := by omega
      cases hkp : keep y with
      | true =>
        rw [hkp] at C
        replace C := Lib.hid C
        have HA2 : Hid (∀ j, j < k + 1 → keep (zs.getD j 0) = true) := Lib.hid (fun j hj => by
          rcases Nat.lt_or_ge j k with h | h
          · exact HA.out j h
          · obtain rfl : j = k := by omega
            rw [← hy]; exact hkp)
        clear hkp hc HP hmem hy
        go_wp2_with fail
        refine C.out.mono ?_
        rintro e w1 ⟨rfl, rfl⟩
        go_wp2
        go_roundw
        case rel => exact ⟨k + 1, by omega, by go_num, HA2, trivial⟩
        case measure => simp [intOf]; omega
      | false =>
        rw [hkp] at C
        replace C := Lib.hid C
        have HK : Hid (keep (zs.getD k 0) = false) := by rw [← hy]; exact Lib.hid hkp
        clear hkp hc HP hmem hy
        go_wp2_with fail
        refine C.out.mono ?_
        rintro e w1 ⟨rfl, rfl⟩
        go_wp2
        go_ret
        exact ⟨rfl, .inr ⟨k, hlt, rfl, HA.out, HK.out⟩⟩
    · obtain rfl : k = n := by omega
      go_wp2
      go_ret
      refine ⟨rfl, .inl ⟨rfl, fun z hz => ?_⟩⟩
      obtain ⟨j, hj, e⟩ := List.mem_iff_getElem.1 hz
      have := HA.out j (by rw [← HL.out]; exact hj)
      rw [List.getD_eq_getElem?_getD, List.getElem?_eq_getElem hj] at this
      rw [← e]
      exact this

set_option maxRecDepth 100000 in
set_option maxHeartbeats 3200000 in
theorem iDel_any (keep : Int → Bool) (q : Nat) (W0 : World) (zs : List Int) (HP : ∀ z ∈ zs, ∀ W, Below W0.heap.size W0 W → Calls Tryz.prog 42 #[.int .i64 z, .pointer (some ⟨q, 0, none⟩)] W fun e w' => e = .returned (.bool (!keep z)) ∧ W = w')
    (v : Value) (w : World) (hB : Below W0.heap.size W0 w) (h : Own .i64 3 w W0.heap.size v zs) (hm : zs.length ≤ 1099511627776) :
    Calls Tryz.prog 41 #[v, .func (.func 42) #[] #[.pointer (some ⟨q, 0, none⟩)]] w fun e w' => ∃ v', e = .returned v' ∧ Own .i64 3 w' W0.heap.size v' (zs.filter keep) ∧ Below W0.heap.size W0 w' := by
  obtain ⟨a, cap, rfl, hrd⟩ := h.rd
  obtain ⟨n, hn⟩ : ∃ n, n = zs.length := ⟨_, rfl⟩
  have CI := Lib.hid (iIdx_any keep q W0 zs HP a zs.length cap w hB hrd hm)
  have hnc := hrd.1.2.1
  have hcm := hrd.1.2.2.1
  unfold maxLen at hcm
  rw [← hn] at CI hnc hm
  have HO := h
  unfold Own at HO
  rw [← hn] at HO ⊢
  have HO := Lib.hid HO
  have HN := Lib.hid hn
  clear h hrd hn
  replace HP := Lib.hid HP
  go_enter Tryz.func41, Tryz.ntmps41
  go_wp2_with fail
  refine CI.out.mono ?_
  rintro e w1 ⟨rfl, (⟨rfl, hall⟩ | ⟨k, hk, rfl, h1, h2⟩)⟩
  · have he : zs.filter keep = zs := List.filter_eq_self.2 hall
    clear hall CI
    go_wp2
    go_ret
    rw [he]
    refine ⟨_, rfl, ?_, hB⟩
    unfold Own
    rw [← HN.out]
    exact HO.out
  · obtain ⟨g, rfl⟩ := own_head HO.out (by omega)
    have z0 : ((k : Int) == -1) = false := by simp
    have hk0 : Hid (zs.take k = (zs.take (k + 1)).filter keep) := by
      have e1 : (zs.take k).filter keep = zs.take k := List.filter_eq_self.2 (fun z hz => by
        obtain ⟨j, hj, e⟩ := List.mem_iff_getElem.1 hz
        rw [List.length_take] at hj
        have := h1 j (by omega)
        rw [List.getElem_take] at e
        rw [List.getD_eq_getElem?_getD, List.getElem?_eq_getElem (by omega)] at this
        rw [← e]
        exact this)
      refine Lib.hid ?_
      rw [filter_next (by rw [← HN.out]; exact hk), h2, if_neg Bool.false_ne_true, e1]
    have HBw := Lib.hid hB
    clear CI h1 h2 hB
    go_wp2_with fail
    go_loopw [5, 6] (fun i j wr => ∃ (x y : Nat) (rs : List Int), x < y ∧ y ≤ n ∧ i = .int .i64 (x : Int) ∧ j = .int .i64 (y : Int) ∧ Hid (wr.ownsRow W0.heap.size 3 1 (.slice (some ⟨g, 0, none⟩) n cap) n (rs.map (Value.int .i64))) ∧ Hid (rs.length = n) ∧ Hid (rs.take x = (zs.take y).filter keep) ∧ Hid (rs.drop y = zs.drop y) ∧ Hid (Below W0.heap.size W0 wr)) (fun _ j _ => n - (intOf j).toNat)
    case atStart => exact ⟨k, k + 1, zs, by omega, by omega, rfl, by go_num, HO, Lib.hid HN.out.symm, hk0, Lib.hid rfl, HBw⟩
    case round =>
      obtain ⟨x, y, rs, hxy, hyn, rfl, rfl, HR, HL, HT, HD, HB⟩ := hrel
      by_cases hlt : y < n
      · have hyl : y < rs.length := by rw [HL.out]; exact hlt
        have hyz : y < zs.length := by rw [← HN.out]; exact hlt
        have cy := HR.out.cellAt y (by omega)
        obtain ⟨u, hu⟩ : ∃ u, u = zs.getD y 0 := ⟨_, rfl⟩
        have hru : rs[y]? = some u := by
          have e1 := congrArg (fun l => l[0]?) HD.out
          simp only [List.getElem?_drop, Nat.add_zero] at e1
          rw [e1, hu, List.getD_eq_getElem?_getD, List.getElem?_eq_getElem hyz]
          rfl
        rw [List.getElem?_map, hru] at cy
        simp only [Option.map_some] at cy
        have hmem : u ∈ zs := by
          rw [hu, List.getD_eq_getElem?_getD, List.getElem?_eq_getElem hyz]
          exact List.getElem_mem hyz
        have C := HP.out u hmem wr HB.out
        have z1 : (0 : Int) ≤ y := by omega
        have z2 : (y : Int) < n := by omega
        have HF := filter_next (p := keep) hyz
        rw [← hu] at HF
        have HD2 : Hid (rs.drop (y + 1) = zs.drop (y + 1)) := by
          refine Lib.hid ?_
          have := congrArg (List.drop 1) HD.out
          rwa [List.drop_drop, List.drop_drop] at this
        cases hkp : keep u with
        | true =>
          rw [hkp] at C
          replace C := Lib.hid C
          have cx := HR.out.cellAt x (by omega)
          have fx := HR.out.frozenAt x
          obtain ⟨ux, hux⟩ : ∃ ux, rs[x]? = some ux := ⟨_, List.getElem?_eq_getElem (by omega)⟩
          rw [List.getElem?_map, hux] at cx
          simp only [Option.map_some] at cx
          have hst := HR.out.stored x (.int .i64 u)
          rw [← List.map_set] at hst
          have HR2 := Lib.hid hst.1
          have HB2 := Lib.hid (HB.out.grown hst.2 HB.out.size (fun j e => by cases e; exact (World.ownsRow.lt HR.out g rfl).1))
          have HL2 : Hid ((rs.set x u).length = n) := by rw [List.length_set]; exact HL
          have HT2 : Hid ((rs.set x u).take (x + 1) = (zs.take (y + 1)).filter keep) := by
            refine Lib.hid ?_
            rw [HF, hkp, if_pos rfl, ← HT.out, List.take_add_one, List.take_set_of_le (Nat.le_refl x), List.getElem?_set_self (by omega)]
            rfl
          have HD3 : Hid ((rs.set x u).drop (y + 1) = zs.drop (y + 1)) := by
            refine Lib.hid ?_
            rw [List.drop_set_of_lt (by omega)]
            exact HD2.out
          have z3 : (0 : Int) ≤ x := by omega
          have z4 : (x : Int) < n := by omega
          clear hkp hst HF hmem hu hru hux HD HT
          go_wp2_with fail
          refine C.out.mono ?_
          rintro e w2 ⟨rfl, rfl⟩
          go_wp2
          go_roundw
          case rel => exact ⟨x + 1, y + 1, _, by omega, by omega, by go_num, by go_num, HR2, HL2, HT2, HD3, HB2⟩
          case measure => simp [intOf]; omega
        | false =>
          rw [hkp] at C
          replace C := Lib.hid C
          have HT2 : Hid (rs.take x = (zs.take (y + 1)).filter keep) := by
            refine Lib.hid ?_
            rw [HF, hkp, if_neg Bool.false_ne_true]
            exact HT.out
          clear hkp HF hmem hu hru
          go_wp2_with fail
          refine C.out.mono ?_
          rintro e w2 ⟨rfl, rfl⟩
          go_wp2
          go_roundw
          case rel => exact ⟨x, y + 1, rs, by omega, by omega, rfl, by go_num, HR, HL, HT2, HD2, HB⟩
          case measure => simp [intOf]; omega
      · obtain rfl : y = n := by omega
        have hxc : x ≤ cap := by omega
        have hne : cap ≠ x := by omega
        have z3 : (0 : Int) ≤ x := by omega
        have z4 : (x : Int) ≤ y := by omega
        have z5 : (x : Int) ≤ cap := by omega
        have hcl : ∀ ty, (Builtin.clear_ #[41] ty #[.slice (some ⟨g, x, none⟩) (y - x) (cap - x)]).run Tryz.prog wr = .ok (.tuple #[]) (wr.setCells g x (List.replicate (y - x) (.int .i64 0))) :=
          fun ty => Lib.run_clear_slice wr _ _ ty _ Tryz.underlying41 (fun w => Tryz.zeroValue3 w) rfl rfl g x _ _ (by omega) (fun t ht => by
            have := HR.out.cellAt (x + t) (by omega)
            rw [this, List.getElem?_map, List.getElem?_eq_getElem (by rw [HL.out]; omega)]
            rfl) (fun t ht => HR.out.frozenAt (x + t))
        obtain ⟨ys, hy1, hy2, hy3⟩ := own_clear (List.replicate (y - x) (Value.int .i64 0)) x wr _ HR.out
        have HC := own_cut hy1 (show x ≤ y by omega)
        have hta : zs.take y = zs := List.take_of_length_le (by rw [HN.out]; exact Nat.le_refl _)
        rw [hy2, ← List.map_take, HT.out, hta] at HC
        have hlen : (zs.filter keep).length = x := by
          have := congrArg List.length HT.out
          rw [HN.out, List.take_length] at this
          rw [← this, List.length_take]
          have := HL.out
          omega
        have HB2 := Lib.hid (HB.out.grown hy3 HB.out.size (fun j e => by cases e; exact (World.ownsRow.lt HR.out g rfl).1))
        have HE : Hid (Own .i64 3 (wr.setCells g x (List.replicate (y - x) (.int .i64 0))) W0.heap.size (.slice (some ⟨g, 0, none⟩) x cap) (zs.filter keep)) := by
          refine Lib.hid ?_
          unfold Own
          rw [hlen]
          exact HC
        clear hy1 hy2 hy3 HC hlen
        go_wp2
        go_ret
        exact ⟨_, rfl, HE.out, HB2.out⟩

set_option maxRecDepth 100000 in
set_option maxHeartbeats 800000 in
theorem iLeavesFn_any (root : Int) (a : Option Addr) (n cap : Nat) (ps : List PgV) (q : Nat) (z : Int) (W : World) (h : RdP W a n cap ps) (hq : Loc W q #[.int .i64 root, .slice a n cap]) (hz : 0 ≤ z ∧ z < (n : Int)) :
    Calls Tryz.prog 42 #[.int .i64 z, .pointer (some ⟨q, 0, none⟩)] W fun e w' => e = .returned (.bool (!(pageAt (ps.map PgV.pg) z).leaf)) ∧ W = w' := by
  obtain ⟨m, rfl⟩ := Int.eq_ofNat_of_zero_le hz.1
  have z1 : (m : Int) < n := hz.2
  have z0 : (0 : Int) ≤ m := hz.1
  obtain ⟨b, off, p, rfl, hbl, hp, hrd, d0, d1, d2⟩ := rdP_at h (show m < n by omega)
  have hv : (pageAt (ps.map PgV.pg) m).leaf = p.leaf := by rw [pageAt_yes hp]; rfl
  rw [hv]
  have k1 := hq.2.1 1
  simp at k1
  clear h hq hv hp hrd d0 d2
  go_enter Tryz.func42, Tryz.ntmps42
  go_wp2
  go_ret
  exact ⟨rfl, rfl⟩

set_option maxRecDepth 100000 in
set_option maxHeartbeats 800000 in
theorem iLeaves_any : CLeaves 18 := by
  intro root a n cap ps w h hn hp ht
  obtain ⟨W0, hW0⟩ : ∃ W0, W0 = w.alloc (.cells #[.int .i64 root, .slice a n cap] 26) := ⟨_, rfl⟩
  have b0 : Below w.heap.size w W0 := by subst hW0; exact new_below w _
  have K0 : Loc W0 w.heap.size #[.int .i64 root, .slice a n cap] := by subst hW0; exact Loc.new w _ _
  have s0 : W0.heap.size = w.heap.size + 1 := by subst hW0; simp
  have HR := h.below b0
  have HL := h.1.1.1
  have C := Lib.hid (iReach_any root a n cap ps W0 HR (by omega) (fun p hq => Nat.le_trans (hp p hq) (by decide)) (Nat.le_trans ht (by decide)))
  obtain ⟨r, hr⟩ : ∃ r, reachV (ps.map PgV.pg) root = r := ⟨_, rfl⟩
  have hok : OutOk (ps.map PgV.pg) r := by rw [← hr]; exact reachV_ok _ _
  have hrl : r.length ≤ n := by
    have := hok.len
    rw [List.length_map, HL] at this
    exact this
  have HP : ∀ z ∈ r, ∀ W, Below W0.heap.size W0 W → Calls Tryz.prog 42 #[.int .i64 z, .pointer (some ⟨w.heap.size, 0, none⟩)] W fun e w' => e = .returned (.bool (!(pageAt (ps.map PgV.pg) z).leaf)) ∧ W = w' := fun z hz W hW => by
    refine iLeavesFn_any root a n cap ps w.heap.size z W (HR.below hW) (K0.below hW) ?_
    have := hok.2 z hz
    rw [List.length_map, HL] at this
    exact this
  have CD := Lib.hid (fun v w1 hB ho => iDel_any (fun z => (pageAt (ps.map PgV.pg) z).leaf) w.heap.size W0 r HP v w1 hB ho (by omega))
  have hE : leavesV (ps.map PgV.pg) root = r.filter (fun z => (pageAt (ps.map PgV.pg) z).leaf) := by unfold leavesV; rw [hr]
  rw [hr] at C
  rw [hE]
  have HB0 := Lib.hid b0
  have s1 := Lib.hid s0
  clear h HP hok HL hE hr HR K0 s0 b0
  go_enter Tryz.func18, Tryz.ntmps18
  go_wp2_with fail
  rw [← hW0]
  clear hW0
  refine C.out.mono ?_
  rintro e w1 ⟨v1, rfl, o1, b1⟩
  obtain ⟨a1, c1, rfl, -⟩ := o1.rd
  have CX := Lib.hid (CD.out _ w1 b1 o1)
  clear o1 C CD
  go_wp2_with fail
  refine CX.out.mono ?_
  rintro e w2 ⟨v2, rfl, o2, b2⟩
  obtain ⟨a2, c2, rfl, -⟩ := o2.rd
  go_wp2
  go_ret
  exact ⟨_, rfl, Own.mono o2 (by have := s1.out; omega), HB0.out.trans (b2.mono HB0.out.size)⟩
end Go.Proofs.YtfefggcfeppeiaaGreat
